/- What package buffer's LoadInt, StoreInt, Components, Size, ValidAttribute, decode, encode return. -/
import Derived.Test.YtfiblgbglccmhaaB1
import Derived.Test.YtfiblgbglccmhaaFixedB
import Derived.Test.YtfiblgbglccmhaaMini3
namespace Go.Proofs.Ytfiblgbglccmhaa
open Go.RowKit Go.Sort

theorem hasInt_q (A : Option Addr) (n c : Nat) (i : Int) (w : World) (hn : n ≤ 9223372036854775807) :
    Calls Try.prog 27 #[.slice A n c, .int .i64 i] w fun e w' => e = .returned (.bool (decide (0 ≤ i ∧ i < (n : Int) / 4))) ∧ w = w' := by
  by_cases h : 0 ≤ i ∧ i < (n : Int) / 4
  · rw [decide_eq_true h]
    obtain ⟨h1, h2⟩ := h
    go_enter Try.func27, Try.ntmps27
    go_wp2
    go_ret
    exact ⟨rfl, rfl⟩
  · rw [decide_eq_false h]
    rcases (show i < 0 ∨ (0 ≤ i ∧ (n : Int) / 4 ≤ i) by omega) with h1 | ⟨h1, h2⟩
    all_goals
      clear h
      go_enter Try.func27, Try.ntmps27
      go_wp2
      go_ret
      exact ⟨congrArg (fun b => Ending.returned (.bool b)) (by simp <;> omega), rfl⟩

theorem blittle_at (A : Option Addr) (n c : Nat) (l : List Int) (w : World) (R : Rd w w.heap.size .u8 A n l) (p m : Int) (q k : Nat) (ep : p = q) (em : m = k) (hn : n ≤ 9223372036854775807) (m1 : 1 ≤ k) (m4 : k ≤ 4) (hp : q + k ≤ n) :
    Calls Try.prog 29 #[.slice A n c, .int .i64 p, .int .i64 m] w fun e w' => e = .returned (.int .i64 (litv (part l q k))) ∧ Below w.heap.size w w' := by
  subst ep; subst em; exact little_yes A n c q k l w R hn m1 m4 hp

theorem bput_at (A : Option Addr) (n c : Nat) (l : List Int) (v : Int) (w : World) (R : Rd w w.heap.size .u8 A n l) (p m : Int) (q k : Nat) (ep : p = q) (em : m = k) (hn : n ≤ 140737488355328) (m1 : 1 ≤ k) (m4 : k ≤ 4) (hp : q + k ≤ n) :
    Calls Try.prog 32 #[.slice A n c, .int .i64 p, .int .i64 m, .int .i64 v] w (GivesOwn w w.heap.size 5 .u8 (putL l q v k)) := by
  subst ep; subst em; exact putLittle_yes A n c q k l v w R hn m1 m4 hp

theorem loadInt_b (A : Option Addr) (n c : Nat) (l : List Int) (i : Int) (w : World) (R : Rd w w.heap.size .u8 A n l) (hn : n ≤ 9223372036854775807) :
    Calls Try.prog 10 #[.slice A n c, .int .i64 i] w fun e w' => e = .returned (.int .i64 (ldi l i)) ∧ Below w.heap.size w w' := by
  have BB : Below w.heap.size w w := Below.refl _ _
  have hl := R.len
  have c0 := fun W => of_q (hasInt_q A n c i W (by omega))
  unfold ldi
  rw [hl]
  by_cases h : 0 ≤ i ∧ i < (n : Int) / 4
  · rw [if_pos h]
    rw [decide_eq_true h] at c0
    obtain ⟨p, rfl⟩ : ∃ p : Nat, i = p := ⟨i.toNat, by omega⟩
    rw [Int.toNat_natCast]
    have c1 := fun W (RW : Rd W W.heap.size .u8 A n l) => blittle_at A n c l W RW ((p : Int) * 4) 4 (4 * p) 4 (by omega) (by omega) hn (by omega) (by omega) (by omega)
    have hr := lit4_rng (p := 4 * p) (rd_rng255 R) (by rw [hl]; omega)
    obtain ⟨x, hx⟩ : ∃ x, litv (part l (4 * p) 4) = x := ⟨_, rfl⟩
    have c2 := fun W => wrap_b x W
    rw [hx] at c1 hr ⊢
    rw [sg_wrap hr.1 hr.2] at c2
    have C0 := Lib.hid c0
    have C1 := Lib.hid c1
    have C2 := Lib.hid c2
    have K1 := R
    obtain ⟨h1, h2⟩ := h
    clear R hl c0 c1 c2 hr hx
    go_enter Try.func10, Try.ntmps10
    go_wp2_with (first | (go_at_call 27; refine (C0.out _).mono ?_; rintro _ _ ⟨rfl, B⟩; replace BB := bon BB B; replace K1 := Rd.on K1 B) | (go_at_call 29; refine (C1.out _ K1).mono ?_; rintro _ _ ⟨rfl, B⟩; replace BB := bon BB B; replace K1 := Rd.on K1 B) | (go_at_call 28; refine (C2.out _).mono ?_; rintro _ _ ⟨rfl, B⟩; replace BB := bon BB B; replace K1 := Rd.on K1 B))
    go_ret
    exact ⟨rfl, BB⟩
  · rw [if_neg h]
    rw [decide_eq_false h] at c0
    have C0 := Lib.hid c0
    have K1 := R
    clear hl c0 h R
    go_enter Try.func10, Try.ntmps10
    go_wp2_with (first | (go_at_call 27; refine (C0.out _).mono ?_; rintro _ _ ⟨rfl, B⟩; replace BB := bon BB B; replace K1 := Rd.on K1 B))
    go_ret
    exact ⟨rfl, BB⟩

theorem storeInt_b (A : Option Addr) (n c : Nat) (l : List Int) (i v : Int) (w : World) (R : Rd w w.heap.size .u8 A n l) (hn : n ≤ 140737488355328) :
    Calls Try.prog 13 #[.slice A n c, .int .i64 i, .int .i64 v] w (GivesRd w .u8 (sti l i v)) := by
  have BB : Below w.heap.size w w := Below.refl _ _
  have hl := R.len
  have c0 := fun W => of_q (hasInt_q A n c i W (by omega))
  unfold sti
  rw [hl]
  by_cases h : 0 ≤ i ∧ i < (n : Int) / 4
  · rw [if_pos h]
    rw [decide_eq_true h] at c0
    obtain ⟨p, rfl⟩ : ∃ p : Nat, i = p := ⟨i.toNat, by omega⟩
    rw [Int.toNat_natCast]
    have c1 := fun W (RW : Rd W W.heap.size .u8 A n l) => bput_at A n c l (wrapv v) W RW ((p : Int) * 4) 4 (4 * p) 4 (by omega) (by omega) hn (by omega) (by omega) (by omega)
    rw [putL_wrap _ _ _ (by rw [hl]; omega)] at c1
    have c2 := fun W => wrap_b v W
    obtain ⟨x, hx⟩ : ∃ x, wrapv v = x := ⟨_, rfl⟩
    rw [hx] at c1 c2
    have C0 := Lib.hid c0
    have C1 := Lib.hid c1
    have C2 := Lib.hid c2
    have K1 := R
    obtain ⟨h1, h2⟩ := h
    clear R hl c0 c1 c2 hx
    go_enter Try.func13, Try.ntmps13
    go_wp2_with (first
      | (go_at_call 27; (with_reducible refine (C0.out _).mono ?_); rintro _ _ ⟨rfl, B⟩; (replace BB := bon BB B; replace K1 := Rd.on K1 B))
      | (go_at_call 28; (with_reducible refine (C2.out _).mono ?_); rintro _ _ ⟨rfl, B⟩; (replace BB := bon BB B; replace K1 := Rd.on K1 B))
      | (go_at_call 32; (with_reducible refine (C1.out _ K1).mono ?_); rintro _ W5 ⟨A5, n5, c5, rfl, own5, B5⟩))
    go_ret
    exact ⟨A5, n5, c5, rfl, own5.room, own5.rd, bon BB B5⟩
  · rw [if_neg h]
    rw [decide_eq_false h] at c0
    have C0 := Lib.hid c0
    have K1 := R
    clear hl c0 h R
    go_enter Try.func13, Try.ntmps13
    go_wp2_with (first
      | (go_at_call 27; (with_reducible refine (C0.out _).mono ?_); rintro _ _ ⟨rfl, B⟩; (replace BB := bon BB B; replace K1 := Rd.on K1 B))
      | (go_at_call 31; refine (clone_b _ _ _ _ _ K1 hn).mono ?_; rintro _ W5 ⟨A5, n5, c5, rfl, own5, B5⟩))
    go_ret
    exact ⟨A5, n5, c5, rfl, own5.room, own5.rd, bon BB B5⟩

set_option maxRecDepth 100000 in
theorem cps_q (f : Int) (w : World) : Calls Try.prog 16 #[.int .i64 f] w fun e w' => e = .returned (.int .i64 (cps f : Nat)) ∧ w = w' := by
  rcases vf_cases f with rfl | rfl | rfl | rfl | rfl | rfl | rfl | rfl | h
  all_goals try (go_enter Try.func16, Try.ntmps16; go_wp2; go_ret; exact ⟨rfl, rfl⟩)
  rw [cps_none h]
  obtain ⟨h1, h2, h3, h4, h5, h6, h7, h8⟩ := h
  go_enter Try.func16, Try.ntmps16
  go_wp2
  go_ret
  exact ⟨rfl, rfl⟩

set_option maxRecDepth 100000 in
theorem csz_q (f : Int) (w : World) : Calls Try.prog 34 #[.int .i64 f] w fun e w' => e = .returned (.int .i64 (csz f : Nat)) ∧ w = w' := by
  rcases (show f = 5 ∨ f = 6 ∨ f = 7 ∨ (f ≠ 5 ∧ f ≠ 6 ∧ f ≠ 7) by omega) with rfl | rfl | rfl | h
  all_goals try (go_enter Try.func34, Try.ntmps34; go_wp2; go_ret; exact ⟨rfl, rfl⟩)
  rw [csz_none h]
  obtain ⟨h1, h2, h3⟩ := h
  go_enter Try.func34, Try.ntmps34
  go_wp2
  go_ret
  exact ⟨rfl, rfl⟩

theorem size_q (f : Int) (w : World) : Calls Try.prog 18 #[.int .i64 f] w fun e w' => e = .returned (.int .i64 (sizv f : Nat)) ∧ w = w' := by
  have C1 := Lib.hid (fun W => cps_q f W)
  have C2 := Lib.hid (fun W => csz_q f W)
  have h1 := cps_le f
  have h2 := csz_rng f
  have h3 := sizv_le f
  have h4 : IntKind.i64.wrap ((cps f : Int) * (csz f : Int)) = (sizv f : Nat) := by
    rw [← Int.natCast_mul]
    exact IntWalk.i64_in _ (by unfold sizv at h3; omega)
  obtain ⟨a, ha⟩ : ∃ a, cps f = a := ⟨_, rfl⟩
  obtain ⟨b, hb⟩ : ∃ b, csz f = b := ⟨_, rfl⟩
  obtain ⟨d, hd⟩ : ∃ d, sizv f = d := ⟨_, rfl⟩
  rw [ha] at C1 h1 h4
  rw [hb] at C2 h2 h4
  rw [hd] at h3 h4 ⊢
  clear ha hb hd
  go_enter Try.func18, Try.ntmps18
  go_wp2_with (first
    | (go_at_call 16; (with_reducible refine (C1.out _).mono ?_); rintro _ _ ⟨rfl, rfl⟩)
    | (go_at_call 34; (with_reducible refine (C2.out _).mono ?_); rintro _ _ ⟨rfl, rfl⟩))
  go_ret
  exact ⟨rfl, rfl⟩

theorem sizv_pos {f : Int} : 0 < sizv f ↔ 0 < cps f := by
  have h2 := csz_rng f
  unfold sizv
  constructor
  · intro h
    rcases Nat.eq_zero_or_pos (cps f) with h0 | h0
    · rw [h0, Nat.zero_mul] at h; omega
    · exact h0
  · intro h
    exact Nat.mul_pos h (by omega)

set_option maxRecDepth 100000 in
theorem attr_b (b o s f : Int) (w : World) : Calls Try.prog 20 #[.agg #[.int .i64 b, .int .i64 o, .int .i64 s, .int .i64 f]] w fun e w' => e = .returned (.bool (decide (attr b o s f))) ∧ Below w.heap.size w w' := by
  obtain ⟨a0, a1, a2, a3, BB⟩ := box4 w (.int .i64 b) (.int .i64 o) (.int .i64 s) (.int .i64 f) 30
  have hc := sizv_le f
  have C := Lib.hid (fun W => of_q (size_q f W))
  obtain ⟨k, hk⟩ : ∃ k, sizv f = k := ⟨_, rfl⟩
  have e : decide (attr b o s f) = decide ((0 ≤ b ∧ b < 4) ∧ (0 ≤ o ∧ o ≤ 4096) ∧ (0 ≤ s ∧ s ≤ 256) ∧ 0 < k) := by rw [decide_eq_decide]; unfold attr; rw [← sizv_pos, hk]
  rw [e]
  rw [hk] at C hc
  clear hk e
  by_cases h : (0 ≤ b ∧ b < 4) ∧ (0 ≤ o ∧ o ≤ 4096) ∧ (0 ≤ s ∧ s ≤ 256)
  · obtain ⟨⟨h1, h2⟩, ⟨h3, h4⟩, h5, h6⟩ := h
    rw [show decide ((0 ≤ b ∧ b < 4) ∧ (0 ≤ o ∧ o ≤ 4096) ∧ (0 ≤ s ∧ s ≤ 256) ∧ 0 < k) = decide (0 < k) from decide_eq_decide.2 ⟨fun q => q.2.2.2, fun q => ⟨⟨h1, h2⟩, ⟨h3, h4⟩, ⟨h5, h6⟩, q⟩⟩]
    go_enter Try.func20, Try.ntmps20
    go_wp2_with (first | (go_at_call 18; refine (C.out _).mono ?_; rintro _ _ ⟨rfl, B⟩; replace BB := bon BB B; replace a0 := cell_below B a0; replace a1 := cell_below B a1; replace a2 := cell_below B a2; replace a3 := cell_below B a3))
    go_ret
    exact ⟨congrArg (fun b => Ending.returned (.bool b)) (by simp), BB⟩
  · rw [decide_eq_false fun q => h ⟨q.1, q.2.1, q.2.2.1⟩]
    rcases (show b < 0 ∨ (0 ≤ b ∧ 4 ≤ b) ∨ (0 ≤ b ∧ b < 4 ∧ o < 0) ∨ (0 ≤ b ∧ b < 4 ∧ 0 ≤ o ∧ 4096 < o) ∨ (0 ≤ b ∧ b < 4 ∧ 0 ≤ o ∧ o ≤ 4096 ∧ s < 0) ∨ (0 ≤ b ∧ b < 4 ∧ 0 ≤ o ∧ o ≤ 4096 ∧ 0 ≤ s ∧ 256 < s) by omega) with h1 | ⟨h1, h2⟩ | ⟨h1, h2, h3⟩ | ⟨h1, h2, h3, h4⟩ | ⟨h1, h2, h3, h4, h5⟩ | ⟨h1, h2, h3, h4, h5, h6⟩
    all_goals
      clear h
      go_enter Try.func20, Try.ntmps20
      go_wp2
      go_ret
      exact ⟨rfl, BB⟩

set_option maxRecDepth 100000 in
theorem decode_b (f n : Int) (w : World) (h0 : 0 ≤ n) (h1 : n < 256 ^ csz f) :
    Calls Try.prog 36 #[.int .i64 f, .int .i64 n] w fun e w' => e = .returned (.int .i64 (dcd f n)) ∧ Below w.heap.size w w' := by
  have BB : Below w.heap.size w w := Below.refl _ _
  rcases (show f = 5 ∨ f = 6 ∨ f = 7 ∨ f = 8 ∨ (f ≠ 5 ∧ f ≠ 6 ∧ f ≠ 7 ∧ f ≠ 8) by omega) with rfl | rfl | rfl | rfl | h
  · have h2 : n < 256 := by rw [show csz 5 = 1 from rfl, show (256 : Int) ^ 1 = 256 by decide] at h1; exact h1
    have c1 := fun W => rounddiv_b (n * 65536) 255 W
    rw [rda_in _ _ (by omega) (by omega) (by omega) (by omega)] at c1
    rw [dcd_5]
    have C1 := Lib.hid c1
    clear c1 h1
    go_enter Try.func36, Try.ntmps36
    go_wp2_with (first | (go_at_call 46; refine (C1.out _).mono ?_; rintro _ _ ⟨rfl, B⟩; replace BB := bon BB B))
    go_ret
    exact ⟨rfl, BB⟩
  · have h2 : n < 65536 := by rw [show csz 6 = 2 from rfl, show (256 : Int) ^ 2 = 65536 by decide] at h1; exact h1
    rw [dcd_half (.inl rfl)]
    have C1 := Lib.hid (fun W => decode_yes 5 10 n true W (by omega) (by omega) (by omega) (by omega) h0 (by rw [show pw (5 + 10 + sbit true) = 65536 by decide]; exact h2))
    clear h1
    go_enter Try.func36, Try.ntmps36
    go_wp2_with (first | (go_at_call 48; refine (half_b _).mono ?_; rintro _ _ ⟨rfl, B⟩; replace BB := bon BB B) | (go_at_call 47; refine (C1.out _).mono ?_; rintro _ _ ⟨rfl, B⟩; replace BB := bon BB B))
    go_ret
    exact ⟨rfl, BB⟩
  · have h2 : n < 65536 := by rw [show csz 7 = 2 from rfl, show (256 : Int) ^ 2 = 65536 by decide] at h1; exact h1
    rw [dcd_half (.inr rfl)]
    have C1 := Lib.hid (fun W => decode_yes 5 10 n true W (by omega) (by omega) (by omega) (by omega) h0 (by rw [show pw (5 + 10 + sbit true) = 65536 by decide]; exact h2))
    clear h1
    go_enter Try.func36, Try.ntmps36
    go_wp2_with (first | (go_at_call 48; refine (half_b _).mono ?_; rintro _ _ ⟨rfl, B⟩; replace BB := bon BB B) | (go_at_call 47; refine (C1.out _).mono ?_; rintro _ _ ⟨rfl, B⟩; replace BB := bon BB B))
    go_ret
    exact ⟨rfl, BB⟩
  · have h2 : n < 4294967296 := by rw [show csz 8 = 4 from rfl, show (256 : Int) ^ 4 = 4294967296 by decide] at h1; exact h1
    rw [dcd_8]
    have c1 := fun W => wrap_b n W
    rw [sg_wrap h0 h2] at c1
    have C1 := Lib.hid c1
    clear c1 h1
    go_enter Try.func36, Try.ntmps36
    go_wp2_with (first | (go_at_call 28; refine (C1.out _).mono ?_; rintro _ _ ⟨rfl, B⟩; replace BB := bon BB B))
    go_ret
    exact ⟨rfl, BB⟩
  · obtain ⟨g1, g2, g3, g4⟩ := h
    rw [csz_none ⟨g1, g2, g3⟩] at h1
    have h2 : n < 4294967296 := by rw [show (256 : Int) ^ 4 = 4294967296 by decide] at h1; exact h1
    rw [dcd_fix ⟨g1, g2, g3, g4⟩]
    have c1 := fun W => wrap_b n W
    rw [sg_wrap h0 h2] at c1
    have C1 := Lib.hid c1
    have C2 := Lib.hid (fun W => saturate_b (sg n) W)
    clear c1 h1
    go_enter Try.func36, Try.ntmps36
    go_wp2_with (first | (go_at_call 28; refine (C1.out _).mono ?_; rintro _ _ ⟨rfl, B⟩; replace BB := bon BB B) | (go_at_call 49; refine (C2.out _).mono ?_; rintro _ _ ⟨rfl, B⟩; replace BB := bon BB B))
    go_ret
    exact ⟨rfl, BB⟩

set_option maxRecDepth 100000 in
theorem encode_b (f x : Int) (w : World) :
    Calls Try.prog 41 #[.int .i64 f, .int .i64 x] w fun e w' => e = .returned (.int .i64 (ecd f x)) ∧ Below w.heap.size w w' := by
  have BB : Below w.heap.size w w := Below.refl _ _
  rcases (show f = 5 ∨ f = 6 ∨ f = 7 ∨ f = 8 ∨ (f ≠ 5 ∧ f ≠ 6 ∧ f ≠ 7 ∧ f ≠ 8) by omega) with rfl | rfl | rfl | rfl | h
  · have hc := clamp_one x
    rw [ecd_5]
    have c0 := fun W => clamp_b x 0 65536 W
    have c1 := fun W => rounddiv_b (clampv x 0 65536 * 255) 65536 W
    rw [rda_in _ _ (by omega) (by omega) (by omega) (by omega)] at c1
    obtain ⟨y, hy⟩ : ∃ y, clampv x 0 65536 = y := ⟨_, rfl⟩
    rw [hy] at c0 c1 hc ⊢
    obtain ⟨h1, h2⟩ := hc
    have C0 := Lib.hid c0
    have C1 := Lib.hid c1
    clear c0 c1 hy
    go_enter Try.func41, Try.ntmps41
    go_wp2_with (first | (go_at_call 55; refine (C0.out _).mono ?_; rintro _ _ ⟨rfl, B⟩; replace BB := bon BB B) | (go_at_call 46; refine (C1.out _).mono ?_; rintro _ _ ⟨rfl, B⟩; replace BB := bon BB B))
    go_ret
    exact ⟨rfl, BB⟩
  · rw [ecd_half (.inl rfl)]
    have C1 := Lib.hid (fun W => encode_yes 5 10 x true W (by omega) (by omega) (by omega) (by omega))
    go_enter Try.func41, Try.ntmps41
    go_wp2_with (first | (go_at_call 48; refine (half_b _).mono ?_; rintro _ _ ⟨rfl, B⟩; replace BB := bon BB B) | (go_at_call 56; refine (C1.out _).mono ?_; rintro _ _ ⟨rfl, B⟩; replace BB := bon BB B))
    go_ret
    exact ⟨rfl, BB⟩
  · rw [ecd_half (.inr rfl)]
    have C1 := Lib.hid (fun W => encode_yes 5 10 x true W (by omega) (by omega) (by omega) (by omega))
    go_enter Try.func41, Try.ntmps41
    go_wp2_with (first | (go_at_call 48; refine (half_b _).mono ?_; rintro _ _ ⟨rfl, B⟩; replace BB := bon BB B) | (go_at_call 56; refine (C1.out _).mono ?_; rintro _ _ ⟨rfl, B⟩; replace BB := bon BB B))
    go_ret
    exact ⟨rfl, BB⟩
  · rw [ecd_8]
    have C1 := Lib.hid (fun W => wrap_b x W)
    go_enter Try.func41, Try.ntmps41
    go_wp2_with (first | (go_at_call 28; refine (C1.out _).mono ?_; rintro _ _ ⟨rfl, B⟩; replace BB := bon BB B))
    go_ret
    exact ⟨rfl, BB⟩
  · obtain ⟨g1, g2, g3, g4⟩ := h
    rw [ecd_fix ⟨g1, g2, g3, g4⟩]
    have C2 := Lib.hid (fun W => saturate_b x W)
    go_enter Try.func41, Try.ntmps41
    go_wp2_with (first | (go_at_call 49; refine (C2.out _).mono ?_; rintro _ _ ⟨rfl, B⟩; replace BB := bon BB B))
    go_ret
    exact ⟨rfl, BB⟩

end Go.Proofs.Ytfiblgbglccmhaa
