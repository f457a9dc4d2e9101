/- What the small functions of package image return: isSide, Valid, isInside, start, Offset. -/
import Derived.Test.YtcjlgfadjedgbaaT6
import Derived.Test.YtcjlgfadjedgbaaIR
import Derived.Test.YtcjlgfadjedgbaaIS
import Derived.Test.YtcjlgfadjedgbaaIM
namespace Go.Proofs.Ytcjlgfadjedgbaa
open Go.RowKit Go.Sort

set_option maxRecDepth 100000 in
theorem iside_q (n : Int) (w : World) : Calls Try.prog 58 #[.int .i64 n] w fun e w' => e = .returned (.bool (sdB n)) ∧ w = w' := by
  unfold sdB
  by_cases h : 1 ≤ n ∧ n ≤ 64
  · rw [decide_eq_true h]
    go_enter Try.func58, Try.ntmps58
    go_wp2
    go_ret
    exact ⟨rfl, rfl⟩
  · rw [decide_eq_false h]
    rcases (show n < 1 ∨ (1 ≤ n ∧ 64 < n) by omega) with h1 | ⟨h1, h2⟩
    all_goals (clear h; go_enter Try.func58, Try.ntmps58; go_wp2; go_ret; exact ⟨congrArg (fun b => Ending.returned (.bool b)) (by simp <;> omega), rfl⟩)

set_option maxRecDepth 100000 in
theorem pvalid_b (f wd ht : Int) (A : Option Addr) (n c : Nat) (l : List Int) (w : World) (hl : l.length = n) :
    Calls Try.prog 34 #[.agg #[.int .i64 f, .int .i64 wd, .int .i64 ht, .slice A n c]] w fun e w' => e = .returned (.bool (decide (Im.mk f wd ht l).ok)) ∧ Below w.heap.size w w' := by
  obtain ⟨a0, a1, a2, a3, BB⟩ := box4 w (.int .i64 f) (.int .i64 wd) (.int .i64 ht) (.slice A n c) 25
  have c1 := fun W => iof_same (tvalid_q f W)
  have c2 := fun W => iof_same (iside_q wd W)
  have c3 := fun W => iof_same (iside_q ht W)
  have c4 := fun W => iof_same (tsize_q f W)
  have h8 := nsz_le f
  by_cases hz : nsz f = 0
  · rw [decide_eq_false (fun h : (Im.mk f wd ht l).ok => h.1 hz)]
    rw [show isf f = false by unfold isf; rw [hz]; rfl] at c1
    have C1 := Lib.hid c1
    clear c1 c2 c3 c4 hz h8
    go_enter Try.func34, Try.ntmps34
    go_wp2
    have k_a0 := cell_regrown a0
    have k_a1 := cell_regrown a1
    have k_a2 := cell_regrown a2
    have k_a3 := cell_regrown a3
    refine wp_region_quiet_below (by kernel_rfl) (by kernel_rfl) ?_
    repeat (first | go_big_quiet_step ((first | (go_at_call 57; exact Calls.regrown_of (C1.out _)))) | quiet_step ((first | (go_at_call 57; exact Calls.regrown_of (C1.out _)))))
    refine wpQuiet_nil ?_
    intro W hw'
    have B := below_regrown' hw'
    clear hw' k_a0 k_a1 k_a2 k_a3
    replace BB := bon BB B
    replace a0 := cell_below B a0
    replace a1 := cell_below B a1
    replace a2 := cell_below B a2
    replace a3 := cell_below B a3
    go_wp2
    go_ret
    exact ⟨rfl, BB⟩
  · rw [show isf f = true by unfold isf; simp [hz]] at c1
    unfold sdB at c2 c3
    by_cases hw : 1 ≤ wd ∧ wd ≤ 64
    · rw [decide_eq_true hw] at c2
      by_cases hh : 1 ≤ ht ∧ ht ≤ 64
      · rw [decide_eq_true hh] at c3
        obtain ⟨p, q, g1, g2, e1, e2, q0, q1⟩ := side_prod hw hh h8
        have hd : decide (Im.mk f wd ht l).ok = ((n : Int) == q) := by
          by_cases h : (n : Int) = q
          · rw [decide_eq_true (show (Im.mk f wd ht l).ok from ⟨hz, hw, hh, by show (l.length : Int) = wd * ht * nsz f; rw [e1, e2, hl]; exact h⟩)]
            simp [h]
          · rw [decide_eq_false (fun k : (Im.mk f wd ht l).ok => h (by have := k.2.2.2; simp only at this; rw [e1, e2, hl] at this; exact this))]
            simp [h]
        rw [hd]
        obtain ⟨s, hs⟩ : ∃ s, nsz f = s := ⟨_, rfl⟩
        rw [hs] at c4 g2
        have C1 := Lib.hid c1
        have C2 := Lib.hid c2
        have C3 := Lib.hid c3
        have C4 := Lib.hid c4
        clear c1 c2 c3 c4 e1 e2 hd hz h8 hs
        go_enter Try.func34, Try.ntmps34
        go_wp2
        have k_a0 := cell_regrown a0
        have k_a1 := cell_regrown a1
        have k_a2 := cell_regrown a2
        have k_a3 := cell_regrown a3
        refine wp_region_quiet_below (by kernel_rfl) (by kernel_rfl) ?_
        repeat (first | go_big_quiet_step ((first | (go_at_call 57; exact Calls.regrown_of (C1.out _)) | (go_at_call 58; with_reducible exact Calls.regrown_of (C2.out _)) | (go_at_call 58; with_reducible exact Calls.regrown_of (C3.out _)) | (go_at_call 37; exact Calls.regrown_of (C4.out _)))) | quiet_step ((first | (go_at_call 57; exact Calls.regrown_of (C1.out _)) | (go_at_call 58; with_reducible exact Calls.regrown_of (C2.out _)) | (go_at_call 58; with_reducible exact Calls.regrown_of (C3.out _)) | (go_at_call 37; exact Calls.regrown_of (C4.out _)))))
        refine wpQuiet_nil ?_
        intro W hw'
        have B := below_regrown' hw'
        clear hw' k_a0 k_a1 k_a2 k_a3
        replace BB := bon BB B
        replace a0 := cell_below B a0
        replace a1 := cell_below B a1
        replace a2 := cell_below B a2
        replace a3 := cell_below B a3
        go_wp2
        go_ret
        exact ⟨rfl, BB⟩
      · rw [decide_eq_false hh] at c3
        rw [decide_eq_false (fun h : (Im.mk f wd ht l).ok => hh h.2.2.1)]
        have C1 := Lib.hid c1
        have C2 := Lib.hid c2
        have C3 := Lib.hid c3
        clear c1 c2 c3 c4 hz h8 hh
        go_enter Try.func34, Try.ntmps34
        go_wp2
        have k_a0 := cell_regrown a0
        have k_a1 := cell_regrown a1
        have k_a2 := cell_regrown a2
        have k_a3 := cell_regrown a3
        refine wp_region_quiet_below (by kernel_rfl) (by kernel_rfl) ?_
        repeat (first | go_big_quiet_step ((first | (go_at_call 57; exact Calls.regrown_of (C1.out _)) | (go_at_call 58; with_reducible exact Calls.regrown_of (C2.out _)) | (go_at_call 58; with_reducible exact Calls.regrown_of (C3.out _)))) | quiet_step ((first | (go_at_call 57; exact Calls.regrown_of (C1.out _)) | (go_at_call 58; with_reducible exact Calls.regrown_of (C2.out _)) | (go_at_call 58; with_reducible exact Calls.regrown_of (C3.out _)))))
        refine wpQuiet_nil ?_
        intro W hw'
        have B := below_regrown' hw'
        clear hw' k_a0 k_a1 k_a2 k_a3
        replace BB := bon BB B
        replace a0 := cell_below B a0
        replace a1 := cell_below B a1
        replace a2 := cell_below B a2
        replace a3 := cell_below B a3
        go_wp2
        go_ret
        exact ⟨rfl, BB⟩
    · rw [decide_eq_false hw] at c2
      rw [decide_eq_false (fun h : (Im.mk f wd ht l).ok => hw h.2.1)]
      have C1 := Lib.hid c1
      have C2 := Lib.hid c2
      clear c1 c2 c3 c4 hz h8 hw
      go_enter Try.func34, Try.ntmps34
      go_wp2
      have k_a0 := cell_regrown a0
      have k_a1 := cell_regrown a1
      have k_a2 := cell_regrown a2
      have k_a3 := cell_regrown a3
      refine wp_region_quiet_below (by kernel_rfl) (by kernel_rfl) ?_
      repeat (first | go_big_quiet_step ((first | (go_at_call 57; exact Calls.regrown_of (C1.out _)) | (go_at_call 58; with_reducible exact Calls.regrown_of (C2.out _)))) | quiet_step ((first | (go_at_call 57; exact Calls.regrown_of (C1.out _)) | (go_at_call 58; with_reducible exact Calls.regrown_of (C2.out _)))))
      refine wpQuiet_nil ?_
      intro W hw'
      have B := below_regrown' hw'
      clear hw' k_a0 k_a1 k_a2 k_a3
      replace BB := bon BB B
      replace a0 := cell_below B a0
      replace a1 := cell_below B a1
      replace a2 := cell_below B a2
      replace a3 := cell_below B a3
      go_wp2
      go_ret
      exact ⟨rfl, BB⟩

/-- Does a rectangle lie within? -/
def inB (wd ht x y a b : Int) : Bool := decide ((0 ≤ x ∧ x ≤ wd - a) ∧ (0 ≤ y ∧ y ≤ ht - b))

set_option maxRecDepth 100000 in
theorem pinside_b (f wd ht : Int) (A : Option Addr) (n c : Nat) (x y a b : Int) (w : World) (hw : 1 ≤ wd ∧ wd ≤ 64) (hh : 1 ≤ ht ∧ ht ≤ 64) (ha : 0 ≤ a) (hb : 0 ≤ b) (ha2 : a ≤ 9223372036854775807) (hb2 : b ≤ 9223372036854775807) :
    Calls Try.prog 99 #[.agg #[.int .i64 f, .int .i64 wd, .int .i64 ht, .slice A n c], .int .i64 x, .int .i64 y, .int .i64 a, .int .i64 b] w fun e w' => e = .returned (.bool (inB wd ht x y a b)) ∧ Below w.heap.size w w' := by
  obtain ⟨a0, a1, a2, a3, BB⟩ := box4 w (.int .i64 f) (.int .i64 wd) (.int .i64 ht) (.slice A n c) 25
  obtain ⟨hw1, hw2⟩ := hw
  obtain ⟨hh1, hh2⟩ := hh
  unfold inB
  rcases (show x < 0 ∨ (0 ≤ x ∧ wd - a < x) ∨ ((0 ≤ x ∧ x ≤ wd - a) ∧ y < 0) ∨ ((0 ≤ x ∧ x ≤ wd - a) ∧ (0 ≤ y ∧ ht - b < y)) ∨ ((0 ≤ x ∧ x ≤ wd - a) ∧ (0 ≤ y ∧ y ≤ ht - b)) by omega) with h | ⟨h1, h2⟩ | ⟨⟨h1, h2⟩, h3⟩ | ⟨⟨h1, h2⟩, ⟨h3, h4⟩⟩ | ⟨⟨h1, h2⟩, ⟨h3, h4⟩⟩
  · rw [decide_eq_false (by omega)]
    go_enter Try.func99, Try.ntmps99
    go_wp2
    go_ret
    exact ⟨congrArg (fun b => Ending.returned (.bool b)) (by simp <;> omega), BB⟩
  · rw [decide_eq_false (by omega)]
    go_enter Try.func99, Try.ntmps99
    go_wp2
    go_ret
    exact ⟨congrArg (fun b => Ending.returned (.bool b)) (by simp <;> omega), BB⟩
  · rw [decide_eq_false (by omega)]
    go_enter Try.func99, Try.ntmps99
    go_wp2
    go_ret
    exact ⟨congrArg (fun b => Ending.returned (.bool b)) (by simp <;> omega), BB⟩
  · rw [decide_eq_false (by omega)]
    go_enter Try.func99, Try.ntmps99
    go_wp2
    go_ret
    exact ⟨congrArg (fun b => Ending.returned (.bool b)) (by simp <;> omega), BB⟩
  · rw [decide_eq_true ⟨⟨h1, h2⟩, ⟨h3, h4⟩⟩]
    go_enter Try.func99, Try.ntmps99
    go_wp2
    go_ret
    exact ⟨rfl, BB⟩

set_option maxRecDepth 100000 in
theorem pstart_b (f wd ht : Int) (A : Option Addr) (n c : Nat) (x y : Int) (w : World) (hw : 1 ≤ wd ∧ wd ≤ 64) (hx : 0 ≤ x ∧ x ≤ 64) (hy : 0 ≤ y ∧ y ≤ 64) :
    Calls Try.prog 100 #[.agg #[.int .i64 f, .int .i64 wd, .int .i64 ht, .slice A n c], .int .i64 x, .int .i64 y] w fun e w' => e = .returned (.int .i64 ((y * wd + x) * nsz f)) ∧ Below w.heap.size w w' := by
  obtain ⟨a0, a1, a2, a3, BB⟩ := box4 w (.int .i64 f) (.int .i64 wd) (.int .i64 ht) (.slice A n c) 25
  have h8 := nsz_le f
  have c4 := fun W => iof_same (tsize_q f W)
  have h1 := mul_bds hy.1 hy.2 (show 0 ≤ wd by omega) hw.2
  obtain ⟨p, hp⟩ : ∃ p, y * wd = p := ⟨_, rfl⟩
  rw [hp] at h1 ⊢
  have h2 := mul_bds (x := p + x) (a := 4160) (y := (nsz f : Int)) (b := 8) (by omega) (by omega) (by omega) (by omega)
  obtain ⟨s, hs⟩ : ∃ s, nsz f = s := ⟨_, rfl⟩
  rw [hs] at c4 h2 ⊢
  obtain ⟨q, hq⟩ : ∃ q, (p + x) * s = q := ⟨_, rfl⟩
  rw [hq] at h2 ⊢
  have g1 : IntKind.i64.wrap (y * wd) = p := by rw [hp]; exact IntWalk.i64_in _ (by omega)
  have g2 : IntKind.i64.wrap ((p + x) * s) = q := by rw [hq]; exact IntWalk.i64_in _ (by omega)
  have C4 := Lib.hid c4
  obtain ⟨x0, x1⟩ := hx
  obtain ⟨y0, y1⟩ := hy
  obtain ⟨p0, p1⟩ := h1
  clear c4 hp hq hs h2 h8
  go_enter Try.func100, Try.ntmps100
  go_wp2
  have k_a0 := cell_regrown a0
  have k_a1 := cell_regrown a1
  have k_a2 := cell_regrown a2
  have k_a3 := cell_regrown a3
  refine wp_region_quiet_below (by kernel_rfl) (by kernel_rfl) ?_
  repeat (first | go_big_quiet_step ((first | (go_at_call 37; exact Calls.regrown_of (C4.out _)))) | quiet_step ((first | (go_at_call 37; exact Calls.regrown_of (C4.out _)))))
  refine wpQuiet_nil ?_
  intro W hw'
  have B := below_regrown' hw'
  clear hw' k_a0 k_a1 k_a2 k_a3
  replace BB := bon BB B
  replace a0 := cell_below B a0
  replace a1 := cell_below B a1
  replace a2 := cell_below B a2
  replace a3 := cell_below B a3
  go_wp2
  go_ret
  exact ⟨rfl, BB⟩

set_option maxRecDepth 100000 in
theorem poff_b (f wd ht : Int) (A : Option Addr) (n c : Nat) (l : List Int) (x y : Int) (w : World) (hl : l.length = n) :
    Calls Try.prog 78 #[.agg #[.int .i64 f, .int .i64 wd, .int .i64 ht, .slice A n c], .int .i64 x, .int .i64 y] w fun e w' => e = .returned (.int .i64 ((Im.mk f wd ht l).off x y)) ∧ Below w.heap.size w w' := by
  obtain ⟨a0, a1, a2, a3, BB⟩ := box4 w (.int .i64 f) (.int .i64 wd) (.int .i64 ht) (.slice A n c) 25
  have c1 := fun W => pvalid_b f wd ht A n c l W hl
  by_cases hok : (Im.mk f wd ht l).ok
  · rw [decide_eq_true hok] at c1
    obtain ⟨hz, hw, hh, hlen⟩ := hok
    simp only at hz hw hh hlen
    have c2 := fun W => pinside_b f wd ht A n c x y 1 1 W hw hh (by omega) (by omega) (by omega) (by omega)
    by_cases hi : (0 ≤ x ∧ x < wd) ∧ (0 ≤ y ∧ y < ht)
    · have hins : (Im.mk f wd ht l).ins x y := ⟨⟨hz, hw, hh, hlen⟩, hi⟩
      rw [show (Im.mk f wd ht l).off x y = (y * wd + x) * nsz f from if_pos hins]
      rw [show inB wd ht x y 1 1 = true from decide_eq_true (by omega)] at c2
      have c3 := fun W => pstart_b f wd ht A n c x y W hw (by omega) (by omega)
      obtain ⟨q, hq⟩ : ∃ q, (y * wd + x) * nsz f = q := ⟨_, rfl⟩
      rw [hq] at c3 ⊢
      have C1 := Lib.hid c1
      have C2 := Lib.hid c2
      have C3 := Lib.hid c3
      clear c1 c2 c3 hq hlen hins hz hi hw hh
      go_enter Try.func78, Try.ntmps78
      go_wp2_with (first | (go_at_call 34; refine (C1.out _).mono ?_; rintro _ _ ⟨rfl, B⟩; replace BB := bon BB B; replace a0 := cell_below B a0; replace a1 := cell_below B a1; replace a2 := cell_below B a2; replace a3 := cell_below B a3) | (go_at_call 99; refine (C2.out _).mono ?_; rintro _ _ ⟨rfl, B⟩; replace BB := bon BB B; replace a0 := cell_below B a0; replace a1 := cell_below B a1; replace a2 := cell_below B a2; replace a3 := cell_below B a3) | (go_at_call 100; refine (C3.out _).mono ?_; rintro _ _ ⟨rfl, B⟩; replace BB := bon BB B; replace a0 := cell_below B a0; replace a1 := cell_below B a1; replace a2 := cell_below B a2; replace a3 := cell_below B a3))
      go_ret
      exact ⟨rfl, BB⟩
    · rw [show (Im.mk f wd ht l).off x y = -1 from if_neg fun k => hi k.2]
      rw [show inB wd ht x y 1 1 = false from decide_eq_false (by omega)] at c2
      have C1 := Lib.hid c1
      have C2 := Lib.hid c2
      clear c1 c2 hlen hz hi hw hh
      go_enter Try.func78, Try.ntmps78
      go_wp2_with (first | (go_at_call 34; refine (C1.out _).mono ?_; rintro _ _ ⟨rfl, B⟩; replace BB := bon BB B; replace a0 := cell_below B a0; replace a1 := cell_below B a1; replace a2 := cell_below B a2; replace a3 := cell_below B a3) | (go_at_call 99; refine (C2.out _).mono ?_; rintro _ _ ⟨rfl, B⟩; replace BB := bon BB B; replace a0 := cell_below B a0; replace a1 := cell_below B a1; replace a2 := cell_below B a2; replace a3 := cell_below B a3))
      go_ret
      exact ⟨rfl, BB⟩
  · rw [decide_eq_false hok] at c1
    rw [show (Im.mk f wd ht l).off x y = -1 from if_neg fun k => hok k.1]
    have C1 := Lib.hid c1
    clear c1 hok
    go_enter Try.func78, Try.ntmps78
    go_wp2_with (first | (go_at_call 34; refine (C1.out _).mono ?_; rintro _ _ ⟨rfl, B⟩; replace BB := bon BB B; replace a0 := cell_below B a0; replace a1 := cell_below B a1; replace a2 := cell_below B a2; replace a3 := cell_below B a3))
    go_ret
    exact ⟨rfl, BB⟩

end Go.Proofs.Ytcjlgfadjedgbaa

/- What package image's Clone, Get, Hash return. -/
namespace Go.Proofs.Ytcjlgfadjedgbaa
open Go.RowKit Go.Sort

set_option maxRecDepth 100000 in
set_option maxHeartbeats 1000000 in
theorem pget_b (f wd ht : Int) (A : Option Addr) (n c : Nat) (l : List Int) (x y : Int) (w : World) (R : Rd w w.heap.size .u8 A n l) (hc : n ≤ c) :
    Calls Try.prog 53 #[.agg #[.int .i64 f, .int .i64 wd, .int .i64 ht, .slice A n c], .int .i64 x, .int .i64 y] w (GivesV w ((Im.mk f wd ht l).get x y)) := by
  have D0 := IBox.made w f wd ht A n c 25
  have B0 := box_below w #[.int .i64 f, .int .i64 wd, .int .i64 ht, .slice A n c] 25
  have z1 : (w.alloc (.cells #[.int .i64 f, .int .i64 wd, .int .i64 ht, .slice A n c] 25)).heap.size = w.heap.size + 1 := by simp
  have D1 := VBox.made (w.alloc (.cells #[.int .i64 f, .int .i64 wd, .int .i64 ht, .slice A n c] 25)) 0 0 0 0 44
  have B1 := box_below (w.alloc (.cells #[.int .i64 f, .int .i64 wd, .int .i64 ht, .slice A n c] 25)) #[.int .i64 0, .int .i64 0, .int .i64 0, .int .i64 0] 44
  obtain ⟨⟨i0, i1, i2, i3⟩, _⟩ := D0.on B1
  have BB := bon B0 B1
  rw [z1] at D1
  have co := fun W => poff_b f wd ht A n c l x y W R.len
  clear D0 B0 B1 z1
  by_cases hi : (Im.mk f wd ht l).ins x y
  · obtain ⟨p, hp, hpl, -⟩ := (Im.mk f wd ht l).off_in hi
    have hg : ∀ i, (Im.mk f wd ht l).get x y i = dec f (part l p (nsz f)) i := fun i => by
      unfold Im.get Im.txl
      rw [if_pos hi, hp, Int.toNat_natCast]
    have hz : nsz f ≠ 0 := hi.1.1
    unfold GivesV
    rw [hg, hg, hg, hg]
    rw [hp] at co
    simp only at hpl
    rw [R.len] at hpl
    have cs := fun W => iof_same (tsize_q f W)
    have hlm : n ≤ 32768 := by have := (Im.mk f wd ht l).len_le hi.1; simp only at this; rw [R.len] at this; exact this
    obtain ⟨b, off, _, rfl, _, _, _, _⟩ := R.byte (j := 0) (by omega)
    have RR := (R.below BB).more BB.size
    have RS := rd_sub (p := p) (q := p + nsz f) (c := c) RR (by omega) hpl hc
    rw [show p + nsz f - p = nsz f by omega] at RS
    have cd := fun d W R h => tdecode_b f (some ⟨b, off + p, none⟩) (nsz f) d (part l p (nsz f)) W R h (by have := nsz_le f; omega)
    obtain ⟨v, hv⟩ : ∃ v, dec f (part l p (nsz f)) = v := ⟨_, rfl⟩
    rw [hv] at cd ⊢
    obtain ⟨s, hs⟩ : ∃ s, nsz f = s := ⟨_, rfl⟩
    rw [hs] at cd cs RS hpl hz
    obtain ⟨q, hq⟩ : ∃ q, q = p + s := ⟨_, rfl⟩
    have hqs : s = q - p := by omega
    rw [hqs] at cd RS
    have hq2 : (p : Int) + (s : Int) = (q : Int) := by omega
    have hqc : q ≤ c := by omega
    have hpq : p ≤ q := by omega
    have hcp : ¬ c = p := by omega
    have hdc : q - p ≤ c - p := by omega
    have CO := Lib.hid co
    have CS := Lib.hid cs
    have CD := Lib.hid cd
    have HRS := Lib.hid RS
    clear co cs cd RS RR hv hs hq hqs hp hg hi R
    go_enter Try.func53, Try.ntmps53
    go_wp2_with (go_at_call 78; (with_reducible refine (CO.out _).mono ?_); rintro _ W1 ⟨rfl, B⟩; replace i0 := cell_below B i0; replace i1 := cell_below B i1; replace i2 := cell_below B i2; replace i3 := cell_below B i3; replace D1 := D1.on B; replace HRS := Lib.hid (HRS.out.on B); replace BB := bon BB B; clear B)
    have k_i0 := cell_regrown i0
    have k_i1 := cell_regrown i1
    have k_i2 := cell_regrown i2
    have k_i3 := cell_regrown i3
    refine wp_region_tail (n := 12) (by kernel_rfl) (by kernel_rfl) ?_
    simp only [List.take_succ_cons, List.take_zero, List.drop_succ_cons, List.drop_zero]
    repeat (first | go_big_quiet_step ((first | (go_at_call 37; exact Calls.regrown_of (CS.out _)) | (go_at_call 79; exact Calls.regrown_of (CD.out _ _ ((HRS.out.below (below_regrown _ _ _)).more (below_regrown _ _ _).size) hdc)))) | quiet_step ((first | (go_at_call 37; exact Calls.regrown_of (CS.out _)) | (go_at_call 79; exact Calls.regrown_of (CD.out _ _ ((HRS.out.below (below_regrown _ _ _)).more (below_regrown _ _ _).size) hdc)))))
    refine wpQuiet_nil ?_
    intro W hw'
    have B := below_regrown' hw'
    clear hw' k_i0 k_i1 k_i2 k_i3
    replace BB := bon BB B
    replace i0 := cell_below B i0
    replace i1 := cell_below B i1
    replace i2 := cell_below B i2
    replace i3 := cell_below B i3
    replace D1 := D1.on B
    go_wp2_with (refine wpList_vset rfl _ _ _ rfl _ _ _ _ rfl rfl D1 (by kernel_rfl) ?_; intro V2 B2 D3 hD _)
    obtain ⟨⟨d0, d1, d2, d3⟩, _⟩ := D3
    exact bodyPost_ret (v := .agg #[.int .i64 (v 0), .int .i64 (v 1), .int .i64 (v 2), .int .i64 (v 3)]) (by simp [results, Try.results53, go_sem, *]) rfl ⟨rfl, BB.trans (B2.mono (by omega))⟩
  · have hg : ∀ i, (Im.mk f wd ht l).get x y i = 0 := fun i => if_neg hi
    unfold GivesV
    rw [hg, hg, hg, hg]
    rw [(Im.mk f wd ht l).off_out hi] at co
    have CO := Lib.hid co
    clear co hg hi
    go_enter Try.func53, Try.ntmps53
    go_wp2_with (first
      | (go_at_call 78; (with_reducible refine (CO.out _).mono ?_); rintro _ W1 ⟨rfl, B⟩; replace D1 := D1.on B; replace BB := bon BB B; clear B i0 i1 i2 i3)
      | (refine wpList_vset rfl _ _ _ rfl _ _ _ _ rfl rfl D1 (by kernel_rfl) ?_; intro V2 B2 D3 hD _))
    obtain ⟨⟨d0, d1, d2, d3⟩, _⟩ := D3
    exact bodyPost_ret (v := .agg #[.int .i64 0, .int .i64 0, .int .i64 0, .int .i64 0]) (by simp [results, Try.results53, go_sem, *]) rfl ⟨rfl, BB.trans (B2.mono (by omega))⟩

theorem appendIntO_b (A : Option Addr) (n c : Nat) (l : List Int) (x : Int) (w : World) (R : Rd w w.heap.size .u8 A n l) (h0 : -9223372036854775808 ≤ x) (h1 : x ≤ 9223372036854775807)
    (hb : l.length + (encI x).length ≤ 140737488355328) :
    Calls Try.prog 80 #[.slice A n c, .int .i64 x] w (GivesOwn w w.heap.size 5 .u8 (l ++ encI x)) := by
  have hn : n ≤ 140737488355328 := by rw [← R.len]; omega
  have HB := Lib.hid hb
  clear hb
  go_enter Try.func80, Try.ntmps80
  go_wp2_with (first
    | (go_at_call 59; refine (clone_b _ _ _ _ _ R hn).mono ?_; rintro _ W1 ⟨A1, n1, c1, rfl, own1, B1⟩)
    | (go_at_call 102; refine (putInt_b _ _ _ _ _ _ _ own1 h0 h1 HB.out).mono ?_; rintro _ W2 ⟨A2, n2, c2, rfl, own2, B2⟩))
  go_ret
  exact ⟨A2, n2, c2, rfl, own2, B1.trans B2⟩

set_option maxRecDepth 100000 in
set_option maxHeartbeats 600000 in
theorem phash_b (f wd ht : Int) (A : Option Addr) (n c : Nat) (l : List Int) (w : World) (R : Rd w w.heap.size .u8 A n l) :
    Calls Try.prog 54 #[.agg #[.int .i64 f, .int .i64 wd, .int .i64 ht, .slice A n c]] w fun e w' => e = .returned (.int .u64 (Im.mk f wd ht l).hash) ∧ Below w.heap.size w w' := by
  obtain ⟨a0, a1, a2, a3, BB⟩ := box4 w (.int .i64 f) (.int .i64 wd) (.int .i64 ht) (.slice A n c) 25
  have hv := fun W => pvalid_b f wd ht A n c l W R.len
  by_cases hok : (Im.mk f wd ht l).ok
  · rw [show (Im.mk f wd ht l).hash = hashL (((encI f ++ encI wd) ++ encI ht) ++ l) from if_pos hok]
    rw [decide_eq_true hok] at hv
    have hl := (Im.mk f wd ht l).len_le hok
    have hl' : l.length ≤ 32768 := hl
    have hln := R.len
    obtain ⟨hz, hw, hh, _⟩ := hok
    simp only at hz hw hh
    have hf : 1 ≤ f ∧ f ≤ 6 := by
      rcases fmt_cases f with h | h | h | h | h | h | h
      all_goals first | omega | exact absurd (nsz_none h) hz
    have e1 := encI_len f (by omega) (by omega)
    have e2 := encI_len wd (by omega) (by omega)
    have e3 := encI_len ht (by omega) (by omega)
    have p1 := fun W => appendIntO_b none 0 0 [] f W (Rd.nil _ _ _ _) (by omega) (by omega) (by simp only [List.length_nil]; omega)
    have p2 := fun A1 n1 c1 W R1 => appendIntO_b A1 n1 c1 (encI f) wd W R1 (by omega) (by omega) (by omega)
    have p3 := fun A1 n1 c1 W R1 => appendIntO_b A1 n1 c1 (encI f ++ encI wd) ht W R1 (by omega) (by omega) (by rw [List.length_append]; omega)
    have P1 := Lib.hid p1
    have P2 := Lib.hid p2
    have P3 := Lib.hid p3
    clear p1 p2 p3
    have HE : Hid ((encI f).length ≤ 10 ∧ (encI wd).length ≤ 10 ∧ (encI ht).length ≤ 10) := Lib.hid ⟨e1, e2, e3⟩
    have HV := Lib.hid hv
    have HR := Lib.hid R
    clear hv e1 e2 e3 hz hl R
    go_enter Try.func54, Try.ntmps54
    go_wp2_with (first
      | (go_at_call 34; refine (HV.out _).mono ?_; rintro _ W0 ⟨rfl, B⟩; (replace BB := bon BB B; replace a0 := cell_below B a0; replace a1 := cell_below B a1; replace a2 := cell_below B a2; replace a3 := cell_below B a3); clear B)
      | (go_at_call 80; (with_reducible refine (P1.out _).mono ?_); rintro _ W1 ⟨A1, n1, c1, rfl, own1, B⟩; (replace BB := bon BB B; replace a0 := cell_below B a0; replace a1 := cell_below B a1; replace a2 := cell_below B a2; replace a3 := cell_below B a3); clear B; rw [List.nil_append] at own1; have HO1 := Lib.hid own1; clear own1)
      | (go_at_call 80; (with_reducible refine (P2.out A1 n1 c1 _ HO1.out.rd).mono ?_); rintro _ W2 ⟨A2, n2, c2, rfl, own2, B⟩; (replace BB := bon BB B; replace a0 := cell_below B a0; replace a1 := cell_below B a1; replace a2 := cell_below B a2; replace a3 := cell_below B a3); clear B; have HO2 := Lib.hid own2; have HZ := BB.size; clear own2 HO1)
      | (go_at_call 80; (with_reducible refine (P3.out A2 n2 c2 _ HO2.out.rd).mono ?_); rintro _ W3 ⟨A3, n3, c3, rfl, own3, B⟩; (replace BB := bon BB B; replace a0 := cell_below B a0; replace a1 := cell_below B a1; replace a2 := cell_below B a2; replace a3 := cell_below B a3); clear B; have HN3 : n3 ≤ 30 := (by have := HE.out; have := own3.len; rw [List.length_append, List.length_append] at this; omega); have HO3 := Lib.hid (own3.weak (base' := w.heap.size) HZ); clear own3 HO2)
      | (at_builtin; refine wpList_app _ rfl _ _ _ rfl eB HO3.out rfl (HR.out.below BB) rfl (by simp only [maxLen]; omega) (by omega) ?_; intro A4 n4 c4 W4 own4 B; replace BB := BB.trans B; clear B; have HN4 : n4 ≤ 40000 := (by have := HE.out; have := own4.len; rw [List.length_append, List.length_append, List.length_append] at this; omega); have HO4 := Lib.hid own4; clear own4 HO3 a0 a1 a2 a3)
      | (go_at_call 81; refine (hash_b A4 n4 c4 _ _ HO4.out.rd (by omega)).mono ?_; rintro _ W5 ⟨rfl, B⟩; replace BB := bon BB B))
    go_ret
    exact ⟨congrArg (fun t => Ending.returned (.int .u64 (hashL t))) (show encI f ++ (encI wd ++ (encI ht ++ l)) = ((encI f ++ encI wd) ++ encI ht) ++ l by simp only [List.append_assoc]), BB⟩
  · rw [show (Im.mk f wd ht l).hash = 0 from if_neg hok]
    rw [decide_eq_false hok] at hv
    have HV := Lib.hid hv
    clear hv hok R
    go_enter Try.func54, Try.ntmps54
    go_wp2_with (first | (go_at_call 34; refine (HV.out _).mono ?_; rintro _ _ ⟨rfl, B⟩; replace BB := bon BB B; replace a0 := cell_below B a0; replace a1 := cell_below B a1; replace a2 := cell_below B a2; replace a3 := cell_below B a3))
    go_ret
    exact ⟨rfl, BB⟩

set_option maxRecDepth 100000 in
theorem pclone_b (f wd ht : Int) (A : Option Addr) (n c : Nat) (l : List Int) (w : World) (R : Rd w w.heap.size .u8 A n l) (hn : n ≤ 140737488351232) :
    Calls Try.prog 35 #[.agg #[.int .i64 f, .int .i64 wd, .int .i64 ht, .slice A n c]] w (GivesIO w 5 (Im.mk f wd ht l)) := by
  have D0 := IBox.made w f wd ht A n c 25
  have B0 := box_below w #[.int .i64 f, .int .i64 wd, .int .i64 ht, .slice A n c] 25
  have z1 : (w.alloc (.cells #[.int .i64 f, .int .i64 wd, .int .i64 ht, .slice A n c] 25)).heap.size = w.heap.size + 1 := by simp
  have D1 := IBox.made (w.alloc (.cells #[.int .i64 f, .int .i64 wd, .int .i64 ht, .slice A n c] 25)) 0 0 0 none 0 0 25
  have B1 := box_below (w.alloc (.cells #[.int .i64 f, .int .i64 wd, .int .i64 ht, .slice A n c] 25)) #[.int .i64 0, .int .i64 0, .int .i64 0, .slice none 0 0] 25
  have D2 := D0.on B1
  have BX := bon B0 B1
  rw [z1] at D1
  clear D0 B0 B1 z1
  have hsz : ((w.alloc (.cells #[.int .i64 f, .int .i64 wd, .int .i64 ht, .slice A n c] 25)).alloc (.cells #[.int .i64 0, .int .i64 0, .int .i64 0, .slice none 0 0] 25)).heap.size = w.heap.size + 2 := by simp
  have RU := R.on BX
  have i3 := D2.1.2.2.2
  go_enter Try.func35, Try.ntmps35
  go_wp2_with (first
    | (go_at_call 59; (with_reducible refine (clone_b _ _ _ _ _ RU (by omega)).mono ?_); rintro _ W1 ⟨A1, n1, c1, rfl, own1, B1⟩; rw [hsz] at B1; replace D2 := D2.below (by omega) B1; replace D1 := D1.below (by omega) B1; replace i3 := D2.1.2.2.2; have f3 := D2.2 3; rw [hsz] at own1; clear RU hsz R)
    | (refine wpList_iload rfl _ _ rfl imgT (D2.setData A1 n1 c1).1 rfl ?_)
    | (refine wpList_iset rfl _ _ _ rfl rfl rfl (D1.setOther (b' := w.heap.size) (j := 3) (by omega) (.slice A1 n1 c1)) (by kernel_rfl) ?_; intro V2 B2 D3 hg hz; have HG := Lib.hid hg; clear hg))
  obtain ⟨⟨d0, d1, d2, d3⟩, _⟩ := D3
  exact bodyPost_ret (v := .agg #[.int .i64 f, .int .i64 wd, .int .i64 ht, .slice A1 n1 c1]) (by simp [results, Try.results35, go_sem, *]) rfl ⟨A1, n1, c1, rfl, ((own1.past1 (by omega) _ _).past HG.out (by omega)).weak (by omega), (BX.trans (B1.mono (by omega))).trans (((Below.refl _ _).setCell (by simp) _).trans (B2.mono (by omega)))⟩

end Go.Proofs.Ytcjlgfadjedgbaa

/- What package image's Equal, New, Set return. -/
namespace Go.Proofs.Ytcjlgfadjedgbaa
open Go.RowKit Go.Sort

theorem bequal_q (A A2 : Option Addr) (n n2 c c2 B : Nat) (l l2 : List Int) (w : World) (R : Rd w B .u8 A n l) (R2 : Rd w B .u8 A2 n2 l2) :
    Calls Try.prog 77 #[.slice A n c, .slice A2 n2 c2] w fun e w' => e = .returned (.bool ((strOfNums l).toList == (strOfNums l2).toList)) ∧ w = w' := by
  have v1 := iconv (c := c) R
  have v2 := iconv (c := c2) R2
  obtain ⟨s, hs⟩ : ∃ s, strOfNums l = s := ⟨_, rfl⟩
  obtain ⟨t, ht⟩ : ∃ s, strOfNums l2 = s := ⟨_, rfl⟩
  rw [hs] at v1 ⊢
  rw [ht] at v2 ⊢
  clear hs ht R R2
  go_enter Try.func77, Try.ntmps77
  go_wp2
  go_ret
  exact ⟨rfl, rfl⟩

/-- Are two images equal? -/
def eqI (m k : Im) : Bool := m.f == k.f && (m.w == k.w && (m.h == k.h && (strOfNums m.l).toList == (strOfNums k.l).toList))

set_option maxRecDepth 100000 in
theorem pequal_b (f wd ht f2 wd2 ht2 : Int) (A A2 : Option Addr) (n n2 c c2 : Nat) (l l2 : List Int) (w : World) (R : Rd w w.heap.size .u8 A n l) (R2 : Rd w w.heap.size .u8 A2 n2 l2) :
    Calls Try.prog 52 #[.agg #[.int .i64 f, .int .i64 wd, .int .i64 ht, .slice A n c], .agg #[.int .i64 f2, .int .i64 wd2, .int .i64 ht2, .slice A2 n2 c2]] w fun e w' => e = .returned (.bool (eqI ⟨f, wd, ht, l⟩ ⟨f2, wd2, ht2, l2⟩)) ∧ Below w.heap.size w w' := by
  obtain ⟨B0, a0, a1, a2, a3, _⟩ := box4_on (Below.refl w.heap.size w) (.int .i64 f) (.int .i64 wd) (.int .i64 ht) (.slice A n c) 25
  obtain ⟨B1, b0, b1, b2, b3, BB⟩ := box4_on B0 (.int .i64 f2) (.int .i64 wd2) (.int .i64 ht2) (.slice A2 n2 c2) 25
  replace a0 := cell_below B1 a0
  replace a1 := cell_below B1 a1
  replace a2 := cell_below B1 a2
  replace a3 := cell_below B1 a3
  have z1 : (w.alloc (.cells #[.int .i64 f, .int .i64 wd, .int .i64 ht, .slice A n c] 25)).heap.size = w.heap.size + 1 := by simp
  rw [z1] at b0 b1 b2 b3
  have cq := bequal_q A A2 n n2 c c2 w.heap.size l l2 _ (R.below BB) (R2.below BB)
  unfold eqI
  dsimp only
  obtain ⟨s, hs⟩ : ∃ s, ((strOfNums l).toList == (strOfNums l2).toList) = s := ⟨_, rfl⟩
  rw [hs] at cq ⊢
  have CQ := Lib.hid cq
  clear hs R R2 z1 B0 B1 cq
  by_cases h1 : f = f2
  · subst h1
    by_cases h2 : wd = wd2
    · subst h2
      by_cases h3 : ht = ht2
      · subst h3
        go_enter Try.func52, Try.ntmps52
        go_wp2_with (go_at_call 77; (with_reducible refine CQ.out.mono ?_); rintro _ _ ⟨rfl, rfl⟩)
        go_ret
        exact ⟨congrArg (fun b => Ending.returned (.bool b)) (by simp), BB⟩
      · have h3' : (ht == ht2) = false := by simp [h3]
        clear CQ
        go_enter Try.func52, Try.ntmps52
        go_wp2
        go_ret
        exact ⟨congrArg (fun b => Ending.returned (.bool b)) (by simp [h3]), BB⟩
    · have h2' : (wd == wd2) = false := by simp [h2]
      clear CQ
      go_enter Try.func52, Try.ntmps52
      go_wp2
      go_ret
      exact ⟨congrArg (fun b => Ending.returned (.bool b)) (by simp [h2]), BB⟩
  · have h1' : (f == f2) = false := by simp [h1]
    clear CQ
    go_enter Try.func52, Try.ntmps52
    go_wp2
    go_ret
    exact ⟨congrArg (fun b => Ending.returned (.bool b)) (by simp [h1]), BB⟩

end Go.Proofs.Ytcjlgfadjedgbaa
