/- Levels and LevelSize, of both; the example; the walk of MipmapSizes. -/
import Derived.Test.YtcjlgfadjedgbaaLMath
import Derived.Test.YtcjlgfadjedgbaaMini
import Derived.Test.YtcjlgfadjedgbaaT6
namespace Go.Proofs.Ytcjlgfadjedgbaa
open Go.RowKit Go.Sort

theorem isSide_q (n : Int) (w : World) : Calls Try.prog 43 #[.int .i64 n] w fun e w' => e = .returned (.bool (decide (side n))) ∧ w = w' := by
  by_cases h : side n
  · rw [decide_eq_true h]
    obtain ⟨h1, h2⟩ := h
    go_enter Try.func43, Try.ntmps43
    go_wp2
    go_ret
    exact ⟨rfl, rfl⟩
  · rw [decide_eq_false h]
    unfold side at h
    rcases (show n < 1 ∨ (1 ≤ n ∧ 64 < n) by omega) with h1 | ⟨h1, h2⟩
    all_goals
      clear h
      go_enter Try.func43, Try.ntmps43
      go_wp2
      go_ret
      exact ⟨congrArg (fun b => Ending.returned (.bool b)) (by simp <;> omega), rfl⟩

set_option maxRecDepth 100000 in
theorem levels_b (wd ht : Int) (w : World) : Calls Try.prog 18 #[.int .i64 wd, .int .i64 ht] w fun e w' => e = .returned (.int .i64 (nlv wd ht : Nat)) ∧ Below w.heap.size w w' := by
  have BB : Below w.heap.size w w := Below.refl _ _
  have c1 := fun W => of_q (isSide_q wd W)
  have c2 := fun W => of_q (isSide_q ht W)
  by_cases h1 : side wd
  · rw [decide_eq_true h1] at c1
    by_cases h2 : side ht
    · rw [decide_eq_true h2] at c2
      have hm := mxs h1 h2
      rw [nlv_in h1 h2]
      obtain ⟨x, hx⟩ : ∃ x, (if wd < ht then ht else wd) = x := ⟨_, rfl⟩
      rw [hx] at hm ⊢
      have c3 := fun W => len_b x W (by have := hm.1; omega) (by have := hm.2; omega)
      have C1 := Lib.hid c1
      have C2 := Lib.hid c2
      have C3 := Lib.hid c3
      obtain ⟨m1, m2⟩ := hm
      clear c1 c2 c3
      go_enter Try.func18, Try.ntmps18
      go_wp2_with (first
        | (go_at_call 43; (with_reducible refine (C1.out _).mono ?_); rintro _ _ ⟨rfl, B⟩; replace BB := bon BB B; clear B)
        | (go_at_call 43; (with_reducible refine (C2.out _).mono ?_); rintro _ _ ⟨rfl, B⟩; replace BB := bon BB B; clear B)
        | (go_at_call 44; (with_reducible refine (C3.out _).mono ?_); rintro _ _ ⟨rfl, B⟩; replace BB := bon BB B; clear B))
      go_ret
      exact ⟨rfl, BB⟩
    · rw [decide_eq_false h2] at c2
      rw [nlv_out (fun k => h2 k.2)]
      have C1 := Lib.hid c1
      have C2 := Lib.hid c2
      clear c1 c2 h1 h2
      go_enter Try.func18, Try.ntmps18
      go_wp2_with (first
        | (go_at_call 43; (with_reducible refine (C1.out _).mono ?_); rintro _ _ ⟨rfl, B⟩; replace BB := bon BB B; clear B)
        | (go_at_call 43; (with_reducible refine (C2.out _).mono ?_); rintro _ _ ⟨rfl, B⟩; replace BB := bon BB B; clear B))
      go_ret
      exact ⟨rfl, BB⟩
  · rw [decide_eq_false h1] at c1
    rw [nlv_out (fun k => h1 k.1)]
    have C1 := Lib.hid c1
    clear c1 c2 h1
    go_enter Try.func18, Try.ntmps18
    go_wp2_with (go_at_call 43; (with_reducible refine (C1.out _).mono ?_); rintro _ _ ⟨rfl, B⟩; replace BB := bon BB B; clear B)
    go_ret
    exact ⟨rfl, BB⟩

/-- The size of a level. -/
def lsz (wd ht k : Int) : Int × Int := if 0 ≤ k ∧ k < nlv wd ht then (hfs wd k.toNat, hfs ht k.toNat) else (0, 0)
def GivesII (w : World) (p : Int × Int) (x : Ending) (w' : World) : Prop := x = .returned (.tuple #[.int .i64 p.1, .int .i64 p.2]) ∧ Below w.heap.size w w'

set_option maxRecDepth 100000 in
theorem levelSize_b (wd ht k : Int) (w : World) : Calls Try.prog 16 #[.int .i64 wd, .int .i64 ht, .int .i64 k] w (GivesII w (lsz wd ht k)) := by
  have BB : Below w.heap.size w w := Below.refl _ _
  have c1 := fun W => levels_b wd ht W
  have h7 := nlv_le wd ht
  have hs : 0 < nlv wd ht → side wd ∧ side ht := fun h => by
    by_cases hh : side wd ∧ side ht
    · exact hh
    · rw [nlv_out hh] at h; omega
  unfold lsz
  obtain ⟨n, hn⟩ : ∃ n, nlv wd ht = n := ⟨_, rfl⟩
  rw [hn] at c1 h7 hs ⊢
  have C1 := Lib.hid c1
  clear c1 hn
  by_cases h : 0 ≤ k ∧ k < n
  · rw [if_pos h]
    obtain ⟨k0, k1⟩ := h
    obtain ⟨q, hq⟩ : ∃ q : Nat, k.toNat = q := ⟨_, rfl⟩
    obtain ⟨s1, s2⟩ := hs (by omega)
    have e1 := hfs_shift s1 (k := q) (by omega)
    have e2 := hfs_shift s2 (k := q) (by omega)
    rw [hq, e1, e2]
    have g1 : 0 ≤ wd / 2 ^ q ∧ wd / 2 ^ q ≤ 64 := ⟨Int.ediv_nonneg (by have := s1.1; omega) (by have := pow_pos2 q; omega), Int.le_trans (Int.ediv_le_self _ (by have := s1.1; omega)) s1.2⟩
    have g2 : 0 ≤ ht / 2 ^ q ∧ ht / 2 ^ q ≤ 64 := ⟨Int.ediv_nonneg (by have := s2.1; omega) (by have := pow_pos2 q; omega), Int.le_trans (Int.ediv_le_self _ (by have := s2.1; omega)) s2.2⟩
    clear hs e1 e2
    obtain ⟨a, ha⟩ : ∃ a, wd / 2 ^ q = a := ⟨_, rfl⟩
    obtain ⟨b, hb⟩ : ∃ b, ht / 2 ^ q = b := ⟨_, rfl⟩
    have HA : Hid ((if a < 1 then (1 : Int) else a) = (if 1 < a then a else 1)) := Lib.hid (by split <;> split <;> omega)
    have HB : Hid ((if b < 1 then (1 : Int) else b) = (if 1 < b then b else 1)) := Lib.hid (by split <;> split <;> omega)
    rw [ha] at g1 ⊢
    rw [hb] at g2 ⊢
    rw [HA.out, HB.out]
    obtain ⟨u, hu⟩ : ∃ u, (if 1 < a then a else 1) = u := ⟨_, rfl⟩
    obtain ⟨v, hv⟩ : ∃ v, (if 1 < b then b else 1) = v := ⟨_, rfl⟩
    rw [hu, hv]
    clear HA HB
    have t1 : decide (k < 0) = false := decide_eq_false (by omega)
    have t2 : decide ((n : Int) ≤ k) = false := decide_eq_false (by omega)
    have hh : ¬ (k < 0 ∨ (n : Int) ≤ k) := by omega
    go_enter Try.func16, Try.ntmps16
    go_wp2_with (first | (go_at_call 18; refine (C1.out _).mono ?_; rintro _ _ ⟨rfl, B⟩; replace BB := bon BB B))
    refine wp_region_quiet_below (by kernel_rfl) (by kernel_rfl) ?_
    repeat (first | go_big_quiet_step ((first | fail)) | quiet_step ((first | fail)))
    refine wpQuiet_nil ?_
    intro W hw'
    have B := below_regrown' hw'
    clear hw'
    replace BB := bon BB B
    go_wp2
    go_ret2
    exact ⟨rfl, BB⟩
  · rw [if_neg h]
    rcases (show k < 0 ∨ (0 ≤ k ∧ (n : Int) ≤ k) by omega) with h1 | ⟨h1, h2⟩
    all_goals
      clear h
      go_enter Try.func16, Try.ntmps16
      go_wp2_with (first | (go_at_call 18; refine (C1.out _).mono ?_; rintro _ _ ⟨rfl, B⟩; replace BB := bon BB B))
      go_ret2
      exact ⟨rfl, BB⟩

theorem rlsized_q (wd ht : Int) (w : World) : Calls Try.prog 45 #[.int .i64 wd, .int .i64 ht] w fun e w' => e = .returned (.bool (decide (side wd ∧ side ht))) ∧ w = w' := by
  by_cases h : side wd ∧ side ht
  · rw [decide_eq_true h]
    obtain ⟨⟨h1, h2⟩, h3, h4⟩ := h
    go_enter Try.func45, Try.ntmps45
    go_wp2
    go_ret
    exact ⟨rfl, rfl⟩
  · rw [decide_eq_false h]
    unfold side at h
    rcases (show wd < 1 ∨ (1 ≤ wd ∧ 64 < wd) ∨ (1 ≤ wd ∧ wd ≤ 64 ∧ ht < 1) ∨ (1 ≤ wd ∧ wd ≤ 64 ∧ 1 ≤ ht ∧ 64 < ht) by omega) with h1 | ⟨h1, h2⟩ | ⟨h1, h2, h3⟩ | ⟨h1, h2, h3, h4⟩
    all_goals
      clear h
      go_enter Try.func45, Try.ntmps45
      go_wp2
      go_ret
      exact ⟨congrArg (fun b => Ending.returned (.bool b)) (by simp <;> omega), rfl⟩

set_option maxRecDepth 100000 in
theorem rlevels_q (wd ht : Int) (w : World) : Calls Try.prog 19 #[.int .i64 wd, .int .i64 ht] w fun e w' => e = .returned (.int .i64 (nlv wd ht : Nat)) ∧ w = w' := by
  have c1 := fun W => rlsized_q wd ht W
  by_cases h : side wd ∧ side ht
  · rw [decide_eq_true h] at c1
    rw [nlv_in h.1 h.2]
    have hm := mxs h.1 h.2
    obtain ⟨x, hx⟩ : ∃ x, (if wd < ht then ht else wd) = x := ⟨_, rfl⟩
    rw [hx] at hm ⊢
    have C1 := Lib.hid c1
    have HM := Lib.hid hm
    clear c1 h hm
    go_enter Try.func19, Try.ntmps19
    go_wp2_with (go_at_call 45; (with_reducible refine (C1.out _).mono ?_); rintro _ _ ⟨rfl, rfl⟩)
    go_loop [5, 6] (fun n s => ∃ (k : Nat) (y : Int), n = .int .i64 k ∧ s = .int .i64 y ∧ side y ∧ 1 ≤ k ∧ k + bitLen y.toNat = 1 + bitLen x.toNat) (fun _ s => (intOf s).toNat)
    case atStart => exact ⟨1, x, rfl, rfl, HM.out, by omega, by omega⟩
    case round =>
      obtain ⟨k, y, rfl, rfl, hs, hk1, hk⟩ := hrel
      have hb := bitLen_rng HM.out
      obtain ⟨y1, y2⟩ := hs
      by_cases hy : 1 < y
      · have h1 := bitLen_half ⟨y1, y2⟩ (by omega)
        have hk9 : k ≤ 8 := by omega
        have HK := Lib.hid hk
        have H1 := Lib.hid h1
        clear hk h1 hb
        go_wp2
        go_round
        case rel => exact ⟨k + 1, y / 2, by go_num, rfl, ⟨by omega, by omega⟩, by omega, by have h1 := HK.out; have h2 := H1.out; omega⟩
        case measure => simp [intOf]; omega
      · obtain rfl : y = 1 := by omega
        have e : bitLen (1 : Int).toNat = 1 := bitLen_1
        have hk2 : k = bitLen x.toNat := by omega
        clear hk hb e
        go_wp2
        go_ret
        exact ⟨rfl, rfl⟩
  · rw [decide_eq_false h] at c1
    rw [nlv_out h]
    have C1 := Lib.hid c1
    clear c1 h
    go_enter Try.func19, Try.ntmps19
    go_wp2_with (go_at_call 45; (with_reducible refine (C1.out _).mono ?_); rintro _ _ ⟨rfl, rfl⟩)
    go_ret
    exact ⟨rfl, rfl⟩

set_option maxRecDepth 100000 in
theorem halved_q (n : Int) (k : Nat) (w : World) (hn : side n) (hk : k ≤ 7) : Calls Try.prog 42 #[.int .i64 n, .int .i64 k] w fun e w' => e = .returned (.int .i64 (hfs n k)) ∧ w = w' := by
  have HS := Lib.hid (fun j => hfs_side hn j)
  have HN : Hid (∀ j, hfs n (j + 1) = if hfs n j / 2 < 1 then 1 else hfs n j / 2) := Lib.hid fun j => rfl
  have h0 : Hid (hfs n 0 = n) := Lib.hid rfl
  clear hn
  obtain ⟨H, hH⟩ : ∃ H, hfs n = H := ⟨_, rfl⟩
  rw [hH] at HS HN h0 ⊢
  clear hH
  go_enter Try.func42, Try.ntmps42
  go_wp2
  go_loop [0, 5] (fun x i => ∃ j : Nat, j ≤ k ∧ i = .int .i64 j ∧ x = .int .i64 (H j)) (fun _ i => k - (intOf i).toNat)
  case atStart => exact ⟨0, by omega, rfl, by rw [h0.out]⟩
  case round =>
    obtain ⟨j, hj, rfl, rfl⟩ := hrel
    obtain ⟨s1, s2⟩ := HS.out j
    have e := HN.out j
    obtain ⟨y, hy⟩ : ∃ y, H j = y := ⟨_, rfl⟩
    rw [hy] at s1 s2 e ⊢
    have e2 : (if y / 2 < 1 then (1 : Int) else y / 2) = (if y / 2 > 1 then y / 2 else 1) := by split <;> split <;> omega
    rw [e2] at e
    have HE := Lib.hid e
    clear e e2
    by_cases hlt : j < k
    · go_wp2
      go_round
      case rel => exact ⟨j + 1, by omega, by go_num, by rw [HE.out]⟩
      case measure => simp [intOf]; omega
    · obtain rfl : j = k := by omega
      go_wp2
      go_ret
      exact ⟨rfl, rfl⟩

set_option maxRecDepth 100000 in
theorem rlevelSize_b (wd ht k : Int) (w : World) : Calls Try.prog 17 #[.int .i64 wd, .int .i64 ht, .int .i64 k] w (GivesII w (lsz wd ht k)) := by
  have BB : Below w.heap.size w w := Below.refl _ _
  have c1 := fun W => rlevels_q wd ht W
  have h7 := nlv_le wd ht
  have hs : 0 < nlv wd ht → side wd ∧ side ht := fun h => by
    by_cases hh : side wd ∧ side ht
    · exact hh
    · rw [nlv_out hh] at h; omega
  unfold lsz
  obtain ⟨n, hn⟩ : ∃ n, nlv wd ht = n := ⟨_, rfl⟩
  rw [hn] at c1 h7 hs ⊢
  have C1 := Lib.hid c1
  clear c1 hn
  by_cases h : 0 ≤ k ∧ k < n
  · rw [if_pos h]
    obtain ⟨k0, k1⟩ := h
    obtain ⟨q, hq⟩ : ∃ q : Nat, k.toNat = q := ⟨_, rfl⟩
    have hk : ((q : Nat) : Int) = k := by omega
    obtain ⟨s1, s2⟩ := hs (by omega)
    have C2 := Lib.hid (fun W => halved_q wd q W s1 (by omega))
    have C3 := Lib.hid (fun W => halved_q ht q W s2 (by omega))
    rw [hq]
    rw [hk] at C2 C3
    clear hs s1 s2
    go_enter Try.func17, Try.ntmps17
    go_wp2_with (first
      | (go_at_call 19; (with_reducible refine (C1.out _).mono ?_); rintro _ _ ⟨rfl, rfl⟩)
      | (go_at_call 42; (with_reducible refine (C2.out _).mono ?_); rintro _ _ ⟨rfl, rfl⟩)
      | (go_at_call 42; (with_reducible refine (C3.out _).mono ?_); rintro _ _ ⟨rfl, rfl⟩))
    go_ret2
    exact ⟨rfl, BB⟩
  · rw [if_neg h]
    rcases (show k < 0 ∨ (0 ≤ k ∧ (n : Int) ≤ k) by omega) with h1 | ⟨h1, h2⟩
    all_goals
      clear h
      go_enter Try.func17, Try.ntmps17
      go_wp2_with (go_at_call 19; (with_reducible refine (C1.out _).mono ?_); rintro _ _ ⟨rfl, rfl⟩)
      go_ret2
      exact ⟨rfl, BB⟩

theorem lex_1 : lsz 5 3 1 = (2, 1) := by decide +kernel
theorem lex_2 : nlv 64 1 = 7 := by decide +kernel

set_option maxRecDepth 100000 in
theorem lexample_b (w : World) : Calls Try.prog 9 #[] w fun e w' => e = .returned (.bool true) ∧ Below w.heap.size w w' := by
  have BB : Below w.heap.size w w := Below.refl _ _
  have c1 := fun W => levelSize_b 5 3 1 W
  have c2 := fun W => levels_b 64 1 W
  rw [lex_1] at c1
  rw [lex_2] at c2
  unfold GivesII at c1
  have C1 := Lib.hid c1
  have C2 := Lib.hid c2
  clear c1 c2
  go_enter Try.func9, Try.ntmps9
  go_wp2_with (first
    | (go_at_call 16; (with_reducible refine (C1.out _).mono ?_); rintro _ _ ⟨rfl, B⟩; replace BB := bon BB B; clear B)
    | (go_at_call 18; (with_reducible refine (C2.out _).mono ?_); rintro _ _ ⟨rfl, B⟩; replace BB := bon BB B; clear B))
  go_ret
  exact ⟨rfl, BB⟩

set_option maxRecDepth 100000 in
theorem sizes_walk (wd ht k : Int) (w : World) : Calls Try.prog 4 #[.int .i64 wd, .int .i64 ht, .int .i64 k] w fun e w' => e = .returned (.bool true) ∧ Below w.heap.size w w' := by
  have BB : Below w.heap.size w w := Below.refl _ _
  have c1 := fun W => levelSize_b wd ht k W
  have c2 := fun W => rlevelSize_b wd ht k W
  have c3 := fun W => levels_b wd ht W
  have c4 := fun W => rlevels_q wd ht W
  unfold GivesII at c1 c2
  obtain ⟨p, hp⟩ : ∃ p, lsz wd ht k = p := ⟨_, rfl⟩
  rw [hp] at c1 c2
  obtain ⟨x, y⟩ := p
  simp only at c1 c2
  obtain ⟨n, hn⟩ : ∃ n, nlv wd ht = n := ⟨_, rfl⟩
  rw [hn] at c3 c4
  have C1 := Lib.hid c1
  have C2 := Lib.hid c2
  have C3 := Lib.hid c3
  have C4 := Lib.hid c4
  clear c1 c2 c3 c4 hp hn
  go_enter Try.func4, Try.ntmps4
  go_wp2_with (first
    | (go_at_call 16; (with_reducible refine (C1.out _).mono ?_); rintro _ _ ⟨rfl, B⟩; replace BB := bon BB B; clear B)
    | (go_at_call 17; (with_reducible refine (C2.out _).mono ?_); rintro _ _ ⟨rfl, B⟩; replace BB := bon BB B; clear B)
    | (go_at_call 18; (with_reducible refine (C3.out _).mono ?_); rintro _ _ ⟨rfl, B⟩; replace BB := bon BB B; clear B)
    | (go_at_call 19; (with_reducible refine (C4.out _).mono ?_); rintro _ _ ⟨rfl, rfl⟩)
    | (go_at_call 9; (with_reducible refine (lexample_b _).mono ?_); rintro _ _ ⟨rfl, B⟩; replace BB := bon BB B; clear B))
  go_ret
  exact ⟨rfl, BB⟩

end Go.Proofs.Ytcjlgfadjedgbaa
