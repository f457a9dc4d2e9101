/- Levels and LevelSize, of both; the example; the walk of MipmapSizes. -/
import Derived.Test.YtoipmldbjciinaaLMath
import Derived.Test.YtoipmldbjciinaaMini
import Derived.Test.YtoipmldbjciinaaT6
namespace Go.Proofs.Ytoipmldbjciinaa
open Go.RowKit Go.Sort

theorem isSide_q (n : Int) (w : World) : Calls Try.prog 67 #[.int .i64 n] w fun e w' => e = .returned (.bool (decide (side n))) ∧ w = w' := by
  by_cases h : side n
  · rw [decide_eq_true h]
    obtain ⟨h1, h2⟩ := h
    go_enter Try.func67, Try.ntmps67
    go_wp2
    go_ret
    exact ⟨rfl, rfl⟩
  · rw [decide_eq_false h]
    unfold side at h
    rcases (show n < 1 ∨ (1 ≤ n ∧ 64 < n) by omega) with h1 | ⟨h1, h2⟩
    all_goals
      clear h
      go_enter Try.func67, Try.ntmps67
      go_wp2
      go_ret
      exact ⟨congrArg (fun b => Ending.returned (.bool b)) (by simp <;> omega), rfl⟩

set_option maxRecDepth 100000 in
theorem levels_b (wd ht : Int) (w : World) : Calls Try.prog 61 #[.int .i64 wd, .int .i64 ht] w fun e w' => e = .returned (.int .i64 (nlv wd ht : Nat)) ∧ Below w.heap.size w w' := by
  have BB : Below w.heap.size w w := Below.refl _ _
  have c1 := fun W => of_q (isSide_q wd W)
  have c2 := fun W => of_q (isSide_q ht W)
  by_cases h1 : side wd
  · rw [decide_eq_true h1] at c1
    by_cases h2 : side ht
    · rw [decide_eq_true h2] at c2
      have hm := mxs h1 h2
      rw [nlv_in h1 h2]
      obtain ⟨x, hx⟩ : ∃ x, (if wd < ht then ht else wd) = x := ⟨_, rfl⟩
      rw [hx] at hm ⊢
      have c3 := fun W => len_b x W (by have := hm.1; omega) (by have := hm.2; omega)
      have C1 := Lib.hid c1
      have C2 := Lib.hid c2
      have C3 := Lib.hid c3
      obtain ⟨m1, m2⟩ := hm
      clear c1 c2 c3
      go_enter Try.func61, Try.ntmps61
      go_wp2_with (first
        | (go_at_call 67; (with_reducible refine (C1.out _).mono ?_); rintro _ _ ⟨rfl, B⟩; replace BB := bon BB B; clear B)
        | (go_at_call 67; (with_reducible refine (C2.out _).mono ?_); rintro _ _ ⟨rfl, B⟩; replace BB := bon BB B; clear B)
        | (go_at_call 24; (with_reducible refine (C3.out _).mono ?_); rintro _ _ ⟨rfl, B⟩; replace BB := bon BB B; clear B))
      go_ret
      exact ⟨rfl, BB⟩
    · rw [decide_eq_false h2] at c2
      rw [nlv_out (fun k => h2 k.2)]
      have C1 := Lib.hid c1
      have C2 := Lib.hid c2
      clear c1 c2 h1 h2
      go_enter Try.func61, Try.ntmps61
      go_wp2_with (first
        | (go_at_call 67; (with_reducible refine (C1.out _).mono ?_); rintro _ _ ⟨rfl, B⟩; replace BB := bon BB B; clear B)
        | (go_at_call 67; (with_reducible refine (C2.out _).mono ?_); rintro _ _ ⟨rfl, B⟩; replace BB := bon BB B; clear B))
      go_ret
      exact ⟨rfl, BB⟩
  · rw [decide_eq_false h1] at c1
    rw [nlv_out (fun k => h1 k.1)]
    have C1 := Lib.hid c1
    clear c1 c2 h1
    go_enter Try.func61, Try.ntmps61
    go_wp2_with (go_at_call 67; (with_reducible refine (C1.out _).mono ?_); rintro _ _ ⟨rfl, B⟩; replace BB := bon BB B; clear B)
    go_ret
    exact ⟨rfl, BB⟩

/-- The size of a level. -/
def lsz (wd ht k : Int) : Int × Int := if 0 ≤ k ∧ k < nlv wd ht then (hfs wd k.toNat, hfs ht k.toNat) else (0, 0)
def GivesII (w : World) (p : Int × Int) (x : Ending) (w' : World) : Prop := x = .returned (.tuple #[.int .i64 p.1, .int .i64 p.2]) ∧ Below w.heap.size w w'

set_option maxRecDepth 100000 in
theorem levelSize_b (wd ht k : Int) (w : World) : Calls Try.prog 56 #[.int .i64 wd, .int .i64 ht, .int .i64 k] w (GivesII w (lsz wd ht k)) := by
  have BB : Below w.heap.size w w := Below.refl _ _
  have c1 := fun W => levels_b wd ht W
  have h7 := nlv_le wd ht
  have hs : 0 < nlv wd ht → side wd ∧ side ht := fun h => by
    by_cases hh : side wd ∧ side ht
    · exact hh
    · rw [nlv_out hh] at h; omega
  unfold lsz
  obtain ⟨n, hn⟩ : ∃ n, nlv wd ht = n := ⟨_, rfl⟩
  rw [hn] at c1 h7 hs ⊢
  have C1 := Lib.hid c1
  clear c1 hn
  by_cases h : 0 ≤ k ∧ k < n
  · rw [if_pos h]
    obtain ⟨k0, k1⟩ := h
    obtain ⟨q, hq⟩ : ∃ q : Nat, k.toNat = q := ⟨_, rfl⟩
    obtain ⟨s1, s2⟩ := hs (by omega)
    have e1 := hfs_shift s1 (k := q) (by omega)
    have e2 := hfs_shift s2 (k := q) (by omega)
    rw [hq, e1, e2]
    have g1 : 0 ≤ wd / 2 ^ q ∧ wd / 2 ^ q ≤ 64 := ⟨Int.ediv_nonneg (by have := s1.1; omega) (by have := pow_pos2 q; omega), Int.le_trans (Int.ediv_le_self _ (by have := s1.1; omega)) s1.2⟩
    have g2 : 0 ≤ ht / 2 ^ q ∧ ht / 2 ^ q ≤ 64 := ⟨Int.ediv_nonneg (by have := s2.1; omega) (by have := pow_pos2 q; omega), Int.le_trans (Int.ediv_le_self _ (by have := s2.1; omega)) s2.2⟩
    clear hs e1 e2
    obtain ⟨a, ha⟩ : ∃ a, wd / 2 ^ q = a := ⟨_, rfl⟩
    obtain ⟨b, hb⟩ : ∃ b, ht / 2 ^ q = b := ⟨_, rfl⟩
    have HA : Hid ((if a < 1 then (1 : Int) else a) = (if 1 < a then a else 1)) := Lib.hid (by split <;> split <;> omega)
    have HB : Hid ((if b < 1 then (1 : Int) else b) = (if 1 < b then b else 1)) := Lib.hid (by split <;> split <;> omega)
    rw [ha] at g1 ⊢
    rw [hb] at g2 ⊢
    rw [HA.out, HB.out]
    obtain ⟨u, hu⟩ : ∃ u, (if 1 < a then a else 1) = u := ⟨_, rfl⟩
    obtain ⟨v, hv⟩ : ∃ v, (if 1 < b then b else 1) = v := ⟨_, rfl⟩
    rw [hu, hv]
    clear HA HB
    have t1 : decide (k < 0) = false := decide_eq_false (by omega)
    have t2 : decide ((n : Int) ≤ k) = false := decide_eq_false (by omega)
    have hh : ¬ (k < 0 ∨ (n : Int) ≤ k) := by omega
    go_enter Try.func56, Try.ntmps56
    go_wp2_with (first | (go_at_call 61; refine (C1.out _).mono ?_; rintro _ _ ⟨rfl, B⟩; replace BB := bon BB B))
    refine wp_region_quiet_below (by kernel_rfl) (by kernel_rfl) ?_
    repeat (first | go_big_quiet_step ((first | fail)) | quiet_step ((first | fail)))
    refine wpQuiet_nil ?_
    intro W hw'
    have B := below_regrown' hw'
    clear hw'
    replace BB := bon BB B
    go_wp2
    go_ret2
    exact ⟨rfl, BB⟩
  · rw [if_neg h]
    rcases (show k < 0 ∨ (0 ≤ k ∧ (n : Int) ≤ k) by omega) with h1 | ⟨h1, h2⟩
    all_goals
      clear h
      go_enter Try.func56, Try.ntmps56
      go_wp2_with (first | (go_at_call 61; refine (C1.out _).mono ?_; rintro _ _ ⟨rfl, B⟩; replace BB := bon BB B))
      go_ret2
      exact ⟨rfl, BB⟩

theorem lex_1 : lsz 5 3 1 = (2, 1) := by decide +kernel
theorem lex_2 : nlv 64 1 = 7 := by decide +kernel

end Go.Proofs.Ytoipmldbjciinaa
