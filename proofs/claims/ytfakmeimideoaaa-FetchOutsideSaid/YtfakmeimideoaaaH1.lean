/- What IndexSize, Index, limit of package fetch and of the reference return. -/
import Derived.Test.YtfakmeimideoaaaHMath
import Derived.Test.YtfakmeimideoaaaB4
import Derived.Test.YtfakmeimideoaaaRowE
import Derived.Test.YtfakmeimideoaaaMake
namespace Go.Proofs.Ytfakmeimideoaaa
open Go.RowKit Go.Sort Go.ChangeShapes Go.WideShapes

theorem isz_none {t : Int} (h : t ≠ 1 ∧ t ≠ 2 ∧ t ≠ 3 ∧ t ≠ 4) : isz t = -1 := by unfold isz; rw [if_neg h.1, if_neg h.2.1, if_neg h.2.2.1, if_neg h.2.2.2]

theorem blim_q (x m : Int) (w : World) (hm : 0 ≤ m) : Calls Try.prog 30 #[.int .i64 x, .int .i64 m] w fun e w' => e = .returned (.int .i64 (clampv x 0 m)) ∧ w = w' := by
  have e : clampv x 0 m = if x < 0 then 0 else if m < x then m else x := by unfold clampv; split <;> split <;> (try split) <;> omega
  rw [e]
  rcases (show x < 0 ∨ (0 ≤ x ∧ m < x) ∨ (0 ≤ x ∧ x ≤ m) by omega) with h | ⟨h1, h2⟩ | ⟨h1, h2⟩
  · rw [if_pos h]
    go_enter Try.func30, Try.ntmps30
    go_wp2
    all_goals go_ret
    all_goals first | exact ⟨rfl, rfl⟩ | (exfalso; omega)
  · rw [if_neg (by omega), if_pos h2]
    go_enter Try.func30, Try.ntmps30
    go_wp2
    all_goals go_ret
    all_goals first | exact ⟨rfl, rfl⟩ | (exfalso; omega) | exact ⟨congrArg (fun b => Ending.returned (.int .i64 b)) (by omega), rfl⟩
  · rw [if_neg (by omega), if_neg (by omega)]
    go_enter Try.func30, Try.ntmps30
    go_wp2
    all_goals go_ret
    all_goals first | exact ⟨rfl, rfl⟩ | (exfalso; omega) | exact ⟨congrArg (fun b => Ending.returned (.int .i64 b)) (by omega), rfl⟩

theorem idk_at {l : List Int} {k p n : Nat} {x : Int} (hl : l.length = n) (h : p < n / k) (hx : litv (part l (p * k) k) = x) : idk l k p = if x = 256 ^ k - 1 then -1 else x := by
  unfold idk
  rw [hl, if_pos ⟨by omega, by omega⟩, Int.toNat_natCast, hx]

theorem fit_in {p n k : Nat} (k1 : 1 ≤ k) (h : p < n / k) : p * k + k ≤ n := by
  have := (Nat.le_div_iff_mul_le (by omega : 0 < k)).1 h
  rw [Nat.succ_mul] at this
  exact this

theorem hrlittle_at (A : Option Addr) (n c : Nat) (l : List Int) (w : World) (R : Rd w w.heap.size .u8 A n l) (p m : Int) (q k : Nat) (ep : p = q) (em : m = k) (hn : n ≤ 9223372036854775807) (m1 : 1 ≤ k) (m4 : k ≤ 4) (hp : q + k ≤ n) :
    Calls Try.prog 26 #[.slice A n c, .int .i64 p, .int .i64 m] w fun e w' => e = .returned (.int .i64 (litv (part l q k))) ∧ Below w.heap.size w w' := by
  subst ep; subst em; exact rlittle_yes A n c q k l w R hn m1 m4 hp

theorem isize_q (t : Int) (w : World) : Calls Try.prog 17 #[.int .i64 t] w fun e w' => e = .returned (.int .i64 (isz t)) ∧ w = w' := by
  rcases it_cases t with rfl | rfl | rfl | rfl | h
  all_goals try (go_enter Try.func17, Try.ntmps17; go_wp2; go_ret; exact ⟨rfl, rfl⟩)
  rw [isz_none h]
  obtain ⟨h1, h2, h3, h4⟩ := h
  go_enter Try.func17, Try.ntmps17
  go_wp2
  go_ret
  exact ⟨rfl, rfl⟩

theorem index_in (A : Option Addr) (n c k p : Nat) (l : List Int) (t : Int) (w : World) (R : Rd w w.heap.size .u8 A n l) (hn : n ≤ 9223372036854775807) (ht : t = 2 ∧ k = 1 ∨ t = 3 ∧ k = 2 ∨ t = 4 ∧ k = 4) (h : p < n / k) :
    Calls Try.prog 9 #[.slice A n c, .int .i64 t, .int .i64 (p : Int)] w fun e w' => e = .returned (.int .i64 (idk l k p)) ∧ Below w.heap.size w w' := by
  have BB : Below w.heap.size w w := Below.refl _ _
  have k14 : 1 ≤ k ∧ k ≤ 4 := by omega
  have hf := fit_in k14.1 h
  have hr := litv_rng4 (p := p * k) (m := k) (rd_rng255 R) (by rw [R.len]; exact hf) k14.2 k14.1
  have c1 := fun W q m R (e1 : q = ((p * k : Nat) : Int)) (e2 : m = (k : Int)) => blittle_at A n c l W R q m (p * k) k e1 e2 hn k14.1 k14.2 hf
  obtain ⟨x, hx⟩ : ∃ x, litv (part l (p * k) k) = x := ⟨_, rfl⟩
  rw [idk_at R.len h hx]
  simp only [hx] at c1 hr
  have C1 := Lib.hid c1
  have C0 := Lib.hid (fun W => of_q (isize_q t W))
  obtain ⟨h0, h1⟩ := hr
  have K1 := R
  clear R c1 hx
  rcases ht with ⟨rfl, rfl⟩ | ⟨rfl, rfl⟩ | ⟨rfl, rfl⟩
  · have C2 := Lib.hid (fun W R => C1.out W (p : Int) 1 R (by omega) rfl)
    rw [show isz 2 = 1 from rfl] at C0
    have h' : (p : Int) < (n : Int) / 1 := by omega
    rw [Int.ediv_one] at h'
    clear h C1
    by_cases hx : x = 255
    all_goals
      first | rw [if_pos (by rw [hx]; rfl)] | rw [if_neg (by intro e; exact hx (by rw [e]; rfl))]
      go_enter Try.func9, Try.ntmps9
      go_wp2_with (first
        | (go_at_call 17; (with_reducible refine (C0.out _).mono ?_); rintro _ _ ⟨rfl, B⟩; (replace BB := bon BB B; replace K1 := Rd.on K1 B))
        | (go_at_call 25; (with_reducible refine (C2.out _ K1).mono ?_); rintro _ _ ⟨rfl, B⟩; (replace BB := bon BB B; replace K1 := Rd.on K1 B)))
      go_ret
      exact ⟨rfl, BB⟩
  · have C2 := Lib.hid (fun W R => C1.out W ((p : Int) * 2) 2 R (by omega) rfl)
    rw [show isz 3 = 2 from rfl] at C0
    have h' : (p : Int) < (n : Int) / 2 := by omega
    clear h C1
    by_cases hx : x = 65535
    all_goals
      first | rw [if_pos (by rw [hx]; rfl)] | rw [if_neg (by intro e; exact hx (by rw [e]; rfl))]
      go_enter Try.func9, Try.ntmps9
      go_wp2_with (first
        | (go_at_call 17; (with_reducible refine (C0.out _).mono ?_); rintro _ _ ⟨rfl, B⟩; (replace BB := bon BB B; replace K1 := Rd.on K1 B))
        | (go_at_call 25; (with_reducible refine (C2.out _ K1).mono ?_); rintro _ _ ⟨rfl, B⟩; (replace BB := bon BB B; replace K1 := Rd.on K1 B)))
      go_ret
      exact ⟨rfl, BB⟩
  · have C2 := Lib.hid (fun W R => C1.out W ((p : Int) * 4) 4 R (by omega) rfl)
    rw [show isz 4 = 4 from rfl] at C0
    have h' : (p : Int) < (n : Int) / 4 := by omega
    clear h C1
    by_cases hx : x = 4294967295
    all_goals
      first | rw [if_pos (by rw [hx]; rfl)] | rw [if_neg (by intro e; exact hx (by rw [e]; rfl))]
      go_enter Try.func9, Try.ntmps9
      go_wp2_with (first
        | (go_at_call 17; (with_reducible refine (C0.out _).mono ?_); rintro _ _ ⟨rfl, B⟩; (replace BB := bon BB B; replace K1 := Rd.on K1 B))
        | (go_at_call 25; (with_reducible refine (C2.out _ K1).mono ?_); rintro _ _ ⟨rfl, B⟩; (replace BB := bon BB B; replace K1 := Rd.on K1 B)))
      go_ret
      exact ⟨rfl, BB⟩

theorem index_out (A : Option Addr) (n c : Nat) (l : List Int) (t i : Int) (w : World) (hl : l.length = n) (hn : n ≤ 9223372036854775807) (h : ¬ (0 ≤ i ∧ (t = 2 ∧ i < (n : Int) ∨ t = 3 ∧ i < (n : Int) / 2 ∨ t = 4 ∧ i < (n : Int) / 4))) :
    Calls Try.prog 9 #[.slice A n c, .int .i64 t, .int .i64 i] w fun e w' => e = .returned (.int .i64 (idx l t i)) ∧ Below w.heap.size w w' := by
  have BB : Below w.heap.size w w := Below.refl _ _
  have C0 := Lib.hid (fun W => of_q (isize_q t W))
  rcases Int.lt_or_le i 0 with hi | hi
  · rw [idx_neg hi]
    clear h hl
    rcases it_cases t with rfl | rfl | rfl | rfl | h'
    rotate_right
    · rw [isz_none h'] at C0
      clear h'
      go_enter Try.func9, Try.ntmps9
      go_wp2_with (first | (go_at_call 17; refine (C0.out _).mono ?_; rintro _ _ ⟨rfl, B⟩; replace BB := bon BB B))
      go_ret
      exact ⟨rfl, BB⟩
    · rw [show isz 1 = 0 from rfl] at C0
      go_enter Try.func9, Try.ntmps9
      go_wp2_with (first | (go_at_call 17; refine (C0.out _).mono ?_; rintro _ _ ⟨rfl, B⟩; replace BB := bon BB B))
      go_ret
      exact ⟨rfl, BB⟩
    · rw [show isz 2 = 1 from rfl] at C0
      go_enter Try.func9, Try.ntmps9
      go_wp2_with (first | (go_at_call 17; refine (C0.out _).mono ?_; rintro _ _ ⟨rfl, B⟩; replace BB := bon BB B))
      go_ret
      exact ⟨rfl, BB⟩
    · rw [show isz 3 = 2 from rfl] at C0
      go_enter Try.func9, Try.ntmps9
      go_wp2_with (first | (go_at_call 17; refine (C0.out _).mono ?_; rintro _ _ ⟨rfl, B⟩; replace BB := bon BB B))
      go_ret
      exact ⟨rfl, BB⟩
    · rw [show isz 4 = 4 from rfl] at C0
      go_enter Try.func9, Try.ntmps9
      go_wp2_with (first | (go_at_call 17; refine (C0.out _).mono ?_; rintro _ _ ⟨rfl, B⟩; replace BB := bon BB B))
      go_ret
      exact ⟨rfl, BB⟩
  · rcases it_cases t with rfl | rfl | rfl | rfl | h'
    rotate_right
    · rw [idx_none h']
      rw [isz_none h'] at C0
      clear h' h hl
      go_enter Try.func9, Try.ntmps9
      go_wp2_with (first | (go_at_call 17; refine (C0.out _).mono ?_; rintro _ _ ⟨rfl, B⟩; replace BB := bon BB B))
      go_ret
      exact ⟨rfl, BB⟩
    · rw [idx_no l hi]
      rw [show isz 1 = 0 from rfl] at C0
      clear h hl
      go_enter Try.func9, Try.ntmps9
      go_wp2_with (first | (go_at_call 17; refine (C0.out _).mono ?_; rintro _ _ ⟨rfl, B⟩; replace BB := bon BB B))
      go_ret
      exact ⟨rfl, BB⟩
    · have h2 : (n : Int) ≤ i := by omega
      rw [idx_2, idk_out (by omega)]
      rw [show isz 2 = 1 from rfl] at C0
      clear h hl
      go_enter Try.func9, Try.ntmps9
      go_wp2_with (first | (go_at_call 17; refine (C0.out _).mono ?_; rintro _ _ ⟨rfl, B⟩; replace BB := bon BB B))
      go_ret
      exact ⟨rfl, BB⟩
    · have h2 : (n : Int) / 2 ≤ i := by omega
      rw [idx_3, idk_out (by omega)]
      rw [show isz 3 = 2 from rfl] at C0
      clear h hl
      go_enter Try.func9, Try.ntmps9
      go_wp2_with (first | (go_at_call 17; refine (C0.out _).mono ?_; rintro _ _ ⟨rfl, B⟩; replace BB := bon BB B))
      go_ret
      exact ⟨rfl, BB⟩
    · have h2 : (n : Int) / 4 ≤ i := by omega
      rw [idx_4, idk_out (by omega)]
      rw [show isz 4 = 4 from rfl] at C0
      clear h hl
      go_enter Try.func9, Try.ntmps9
      go_wp2_with (first | (go_at_call 17; refine (C0.out _).mono ?_; rintro _ _ ⟨rfl, B⟩; replace BB := bon BB B))
      go_ret
      exact ⟨rfl, BB⟩

theorem index_b (A : Option Addr) (n c : Nat) (l : List Int) (t i : Int) (w : World) (R : Rd w w.heap.size .u8 A n l) (hn : n ≤ 9223372036854775807) :
    Calls Try.prog 9 #[.slice A n c, .int .i64 t, .int .i64 i] w fun e w' => e = .returned (.int .i64 (idx l t i)) ∧ Below w.heap.size w w' := by
  by_cases h : 0 ≤ i ∧ (t = 2 ∧ i < (n : Int) ∨ t = 3 ∧ i < (n : Int) / 2 ∨ t = 4 ∧ i < (n : Int) / 4)
  · obtain ⟨h0, h1⟩ := h
    obtain ⟨p, rfl⟩ : ∃ p : Nat, i = p := ⟨i.toNat, by omega⟩
    rcases h1 with ⟨rfl, h2⟩ | ⟨rfl, h2⟩ | ⟨rfl, h2⟩
    · rw [idx_2]; exact index_in A n c 1 p l 2 w R hn (.inl ⟨rfl, rfl⟩) (by omega)
    · rw [idx_3]; exact index_in A n c 2 p l 3 w R hn (.inr (.inl ⟨rfl, rfl⟩)) (by omega)
    · rw [idx_4]; exact index_in A n c 4 p l 4 w R hn (.inr (.inr ⟨rfl, rfl⟩)) (by omega)
  · exact index_out A n c l t i w R.len hn h

theorem risize_q (t : Int) (w : World) : Calls Try.prog 18 #[.int .i64 t] w fun e w' => e = .returned (.int .i64 (isz t)) ∧ w = w' := by
  rcases it_cases t with rfl | rfl | rfl | rfl | h
  all_goals try (go_enter Try.func18, Try.ntmps18; go_wp2; go_ret; exact ⟨rfl, rfl⟩)
  rw [isz_none h]
  obtain ⟨h1, h2, h3, h4⟩ := h
  go_enter Try.func18, Try.ntmps18
  go_wp2
  go_ret
  exact ⟨rfl, rfl⟩

theorem rindex_in (A : Option Addr) (n c k p : Nat) (l : List Int) (t : Int) (w : World) (R : Rd w w.heap.size .u8 A n l) (hn : n ≤ 9223372036854775807) (ht : t = 2 ∧ k = 1 ∨ t = 3 ∧ k = 2 ∨ t = 4 ∧ k = 4) (h : p < n / k) :
    Calls Try.prog 10 #[.slice A n c, .int .i64 t, .int .i64 (p : Int)] w fun e w' => e = .returned (.int .i64 (idk l k p)) ∧ Below w.heap.size w w' := by
  have BB : Below w.heap.size w w := Below.refl _ _
  have k14 : 1 ≤ k ∧ k ≤ 4 := by omega
  have hf := fit_in k14.1 h
  have hr := litv_rng4 (p := p * k) (m := k) (rd_rng255 R) (by rw [R.len]; exact hf) k14.2 k14.1
  have c1 := fun W q m R (e1 : q = ((p * k : Nat) : Int)) (e2 : m = (k : Int)) => hrlittle_at A n c l W R q m (p * k) k e1 e2 hn k14.1 k14.2 hf
  obtain ⟨x, hx⟩ : ∃ x, litv (part l (p * k) k) = x := ⟨_, rfl⟩
  rw [idk_at R.len h hx]
  simp only [hx] at c1 hr
  have C1 := Lib.hid c1
  have C0 := Lib.hid (fun W => of_q (risize_q t W))
  obtain ⟨h0, h1⟩ := hr
  have K1 := R
  clear R c1 hx
  rcases ht with ⟨rfl, rfl⟩ | ⟨rfl, rfl⟩ | ⟨rfl, rfl⟩
  · have C2 := Lib.hid (fun W R => C1.out W (p : Int) 1 R (by omega) rfl)
    rw [show isz 2 = 1 from rfl] at C0
    have h' : (p : Int) < (n : Int) / 1 := by omega
    rw [Int.ediv_one] at h'
    clear h C1
    by_cases hx : x = 255
    all_goals
      first | rw [if_pos (by rw [hx]; rfl)] | rw [if_neg (by intro e; exact hx (by rw [e]; rfl))]
      go_enter Try.func10, Try.ntmps10
      go_wp2_with (first
        | (go_at_call 18; (with_reducible refine (C0.out _).mono ?_); rintro _ _ ⟨rfl, B⟩; (replace BB := bon BB B; replace K1 := Rd.on K1 B))
        | (go_at_call 26; (with_reducible refine (C2.out _ K1).mono ?_); rintro _ _ ⟨rfl, B⟩; (replace BB := bon BB B; replace K1 := Rd.on K1 B)))
      go_ret
      exact ⟨rfl, BB⟩
  · have C2 := Lib.hid (fun W R => C1.out W ((p : Int) * 2) 2 R (by omega) rfl)
    rw [show isz 3 = 2 from rfl] at C0
    have h' : (p : Int) < (n : Int) / 2 := by omega
    clear h C1
    by_cases hx : x = 65535
    all_goals
      first | rw [if_pos (by rw [hx]; rfl)] | rw [if_neg (by intro e; exact hx (by rw [e]; rfl))]
      go_enter Try.func10, Try.ntmps10
      go_wp2_with (first
        | (go_at_call 18; (with_reducible refine (C0.out _).mono ?_); rintro _ _ ⟨rfl, B⟩; (replace BB := bon BB B; replace K1 := Rd.on K1 B))
        | (go_at_call 26; (with_reducible refine (C2.out _ K1).mono ?_); rintro _ _ ⟨rfl, B⟩; (replace BB := bon BB B; replace K1 := Rd.on K1 B)))
      go_ret
      exact ⟨rfl, BB⟩
  · have C2 := Lib.hid (fun W R => C1.out W ((p : Int) * 4) 4 R (by omega) rfl)
    rw [show isz 4 = 4 from rfl] at C0
    have h' : (p : Int) < (n : Int) / 4 := by omega
    clear h C1
    by_cases hx : x = 4294967295
    all_goals
      first | rw [if_pos (by rw [hx]; rfl)] | rw [if_neg (by intro e; exact hx (by rw [e]; rfl))]
      go_enter Try.func10, Try.ntmps10
      go_wp2_with (first
        | (go_at_call 18; (with_reducible refine (C0.out _).mono ?_); rintro _ _ ⟨rfl, B⟩; (replace BB := bon BB B; replace K1 := Rd.on K1 B))
        | (go_at_call 26; (with_reducible refine (C2.out _ K1).mono ?_); rintro _ _ ⟨rfl, B⟩; (replace BB := bon BB B; replace K1 := Rd.on K1 B)))
      go_ret
      exact ⟨rfl, BB⟩

theorem rindex_out (A : Option Addr) (n c : Nat) (l : List Int) (t i : Int) (w : World) (hl : l.length = n) (hn : n ≤ 9223372036854775807) (h : ¬ (0 ≤ i ∧ (t = 2 ∧ i < (n : Int) ∨ t = 3 ∧ i < (n : Int) / 2 ∨ t = 4 ∧ i < (n : Int) / 4))) :
    Calls Try.prog 10 #[.slice A n c, .int .i64 t, .int .i64 i] w fun e w' => e = .returned (.int .i64 (idx l t i)) ∧ Below w.heap.size w w' := by
  have BB : Below w.heap.size w w := Below.refl _ _
  have C0 := Lib.hid (fun W => of_q (risize_q t W))
  rcases Int.lt_or_le i 0 with hi | hi
  · rw [idx_neg hi]
    clear h hl
    rcases it_cases t with rfl | rfl | rfl | rfl | h'
    rotate_right
    · rw [isz_none h'] at C0
      clear h'
      go_enter Try.func10, Try.ntmps10
      go_wp2_with (first | (go_at_call 18; refine (C0.out _).mono ?_; rintro _ _ ⟨rfl, B⟩; replace BB := bon BB B))
      go_ret
      exact ⟨rfl, BB⟩
    · rw [show isz 1 = 0 from rfl] at C0
      go_enter Try.func10, Try.ntmps10
      go_wp2_with (first | (go_at_call 18; refine (C0.out _).mono ?_; rintro _ _ ⟨rfl, B⟩; replace BB := bon BB B))
      go_ret
      exact ⟨rfl, BB⟩
    · rw [show isz 2 = 1 from rfl] at C0
      go_enter Try.func10, Try.ntmps10
      go_wp2_with (first | (go_at_call 18; refine (C0.out _).mono ?_; rintro _ _ ⟨rfl, B⟩; replace BB := bon BB B))
      go_ret
      exact ⟨rfl, BB⟩
    · rw [show isz 3 = 2 from rfl] at C0
      go_enter Try.func10, Try.ntmps10
      go_wp2_with (first | (go_at_call 18; refine (C0.out _).mono ?_; rintro _ _ ⟨rfl, B⟩; replace BB := bon BB B))
      go_ret
      exact ⟨rfl, BB⟩
    · rw [show isz 4 = 4 from rfl] at C0
      go_enter Try.func10, Try.ntmps10
      go_wp2_with (first | (go_at_call 18; refine (C0.out _).mono ?_; rintro _ _ ⟨rfl, B⟩; replace BB := bon BB B))
      go_ret
      exact ⟨rfl, BB⟩
  · rcases it_cases t with rfl | rfl | rfl | rfl | h'
    rotate_right
    · rw [idx_none h']
      rw [isz_none h'] at C0
      clear h' h hl
      go_enter Try.func10, Try.ntmps10
      go_wp2_with (first | (go_at_call 18; refine (C0.out _).mono ?_; rintro _ _ ⟨rfl, B⟩; replace BB := bon BB B))
      go_ret
      exact ⟨rfl, BB⟩
    · rw [idx_no l hi]
      rw [show isz 1 = 0 from rfl] at C0
      clear h hl
      go_enter Try.func10, Try.ntmps10
      go_wp2_with (first | (go_at_call 18; refine (C0.out _).mono ?_; rintro _ _ ⟨rfl, B⟩; replace BB := bon BB B))
      go_ret
      exact ⟨rfl, BB⟩
    · have h2 : (n : Int) ≤ i := by omega
      rw [idx_2, idk_out (by omega)]
      rw [show isz 2 = 1 from rfl] at C0
      clear h hl
      go_enter Try.func10, Try.ntmps10
      go_wp2_with (first | (go_at_call 18; refine (C0.out _).mono ?_; rintro _ _ ⟨rfl, B⟩; replace BB := bon BB B))
      go_ret
      exact ⟨rfl, BB⟩
    · have h2 : (n : Int) / 2 ≤ i := by omega
      rw [idx_3, idk_out (by omega)]
      rw [show isz 3 = 2 from rfl] at C0
      clear h hl
      go_enter Try.func10, Try.ntmps10
      go_wp2_with (first | (go_at_call 18; refine (C0.out _).mono ?_; rintro _ _ ⟨rfl, B⟩; replace BB := bon BB B))
      go_ret
      exact ⟨rfl, BB⟩
    · have h2 : (n : Int) / 4 ≤ i := by omega
      rw [idx_4, idk_out (by omega)]
      rw [show isz 4 = 4 from rfl] at C0
      clear h hl
      go_enter Try.func10, Try.ntmps10
      go_wp2_with (first | (go_at_call 18; refine (C0.out _).mono ?_; rintro _ _ ⟨rfl, B⟩; replace BB := bon BB B))
      go_ret
      exact ⟨rfl, BB⟩

theorem rindex_b (A : Option Addr) (n c : Nat) (l : List Int) (t i : Int) (w : World) (R : Rd w w.heap.size .u8 A n l) (hn : n ≤ 9223372036854775807) :
    Calls Try.prog 10 #[.slice A n c, .int .i64 t, .int .i64 i] w fun e w' => e = .returned (.int .i64 (idx l t i)) ∧ Below w.heap.size w w' := by
  by_cases h : 0 ≤ i ∧ (t = 2 ∧ i < (n : Int) ∨ t = 3 ∧ i < (n : Int) / 2 ∨ t = 4 ∧ i < (n : Int) / 4)
  · obtain ⟨h0, h1⟩ := h
    obtain ⟨p, rfl⟩ : ∃ p : Nat, i = p := ⟨i.toNat, by omega⟩
    rcases h1 with ⟨rfl, h2⟩ | ⟨rfl, h2⟩ | ⟨rfl, h2⟩
    · rw [idx_2]; exact rindex_in A n c 1 p l 2 w R hn (.inl ⟨rfl, rfl⟩) (by omega)
    · rw [idx_3]; exact rindex_in A n c 2 p l 3 w R hn (.inr (.inl ⟨rfl, rfl⟩)) (by omega)
    · rw [idx_4]; exact rindex_in A n c 4 p l 4 w R hn (.inr (.inr ⟨rfl, rfl⟩)) (by omega)
  · exact rindex_out A n c l t i w R.len hn h

end Go.Proofs.Ytfakmeimideoaaa
