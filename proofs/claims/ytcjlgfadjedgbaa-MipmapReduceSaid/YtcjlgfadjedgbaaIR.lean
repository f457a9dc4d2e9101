/- What the small functions of the reference of images return. -/
import Derived.Test.YtcjlgfadjedgbaaIM
import Derived.Test.YtcjlgfadjedgbaaT1
import Derived.Laws.BytesArg
import Derived.Laws.BytesString
namespace Go.Proofs.Ytcjlgfadjedgbaa
open Go.RowKit Go.Sort

theorem imgT : RowType Try.prog 25 4 := ⟨fun W => by unfold isAgg; rw [Sem.run_bind, run_underlying Try.underlying25 W]; simp, by kernel_rfl⟩

theorem iof_same {P : Program} {f : FuncId} {args : Array Value} {w : World} {v : Value} (h : Calls P f args w fun e w' => e = .returned v ∧ w = w') : Calls P f args w fun e w' => e = .returned v ∧ Below w.heap.size w w' :=
  h.mono fun _ _ ⟨h1, h2⟩ => ⟨h1, h2 ▸ Below.refl _ _⟩

def sdB (n : Int) : Bool := decide (1 ≤ n ∧ n ≤ 64)

set_option maxRecDepth 100000 in
theorem rsized_q (n : Int) (w : World) : Calls Try.prog 47 #[.int .i64 n] w fun e w' => e = .returned (.bool (sdB n)) ∧ w = w' := by
  unfold sdB
  by_cases h : 1 ≤ n ∧ n ≤ 64
  · rw [decide_eq_true h]
    go_enter Try.func47, Try.ntmps47
    go_wp2
    go_ret
    exact ⟨rfl, rfl⟩
  · rw [decide_eq_false h]
    rcases (show n < 1 ∨ (1 ≤ n ∧ 64 < n) by omega) with h1 | ⟨h1, h2⟩
    all_goals (clear h; go_enter Try.func47, Try.ntmps47; go_wp2; go_ret; exact ⟨congrArg (fun b => Ending.returned (.bool b)) (by simp <;> omega), rfl⟩)

set_option maxRecDepth 100000 in
theorem rzeros_b (k : Nat) (w : World) (hk : k ≤ 32768) : Calls Try.prog 56 #[.int .i64 k] w (GivesOwn w w.heap.size 5 .u8 (List.replicate k 0)) := by
  have BB : Below w.heap.size w w := Below.refl _ _
  have OWN0 := Lib.hid (Own.nil w 5 .u8)
  go_enter Try.func56, Try.ntmps56
  go_wp2
  go_loopw [3, 4] (fun t i wr => ∃ (j cap : Nat) (A : Option Addr), j ≤ k ∧ i = .int .i64 j ∧ t = .slice A j cap ∧ Own wr w.heap.size 5 .u8 A j cap (List.replicate j 0) ∧ Below w.heap.size w wr) (fun _ i _ => k - (intOf i).toNat)
  case atStart => exact ⟨0, 0, _, by omega, rfl, rfl, OWN0.out, BB⟩
  case round =>
    clear OWN0 BB
    obtain ⟨j, cap, A, hj, rfl, rfl, own, BB⟩ := hrel
    have OWN := Lib.hid own
    clear own
    by_cases hlt : j < k
    · go_wp2_with (at_builtin; refine wpList_app1 _ rfl _ _ _ rfl eB OWN.out rfl (by rw [u8_min, u8_max]; omega) rfl (by simp only [maxLen]; omega) (by omega) ?_; intro A1 m1 d1 W1 own1 B1; obtain rfl : m1 = j + 1 := by have := own1.len; simp at this; omega)
      go_roundw
      case rel => exact ⟨j + 1, d1, A1, by omega, by go_num, rfl, by rw [List.replicate_succ']; exact own1, BB.trans B1⟩
      case measure => simp [intOf]; omega
    · obtain rfl : j = k := by omega
      go_wp2
      go_ret
      exact ⟨A, j, cap, rfl, OWN.out, BB⟩

/-- The products that Valid and Offset meet. -/
theorem side_prod {a b : Int} {s : Nat} (ha : 1 ≤ a ∧ a ≤ 64) (hb : 1 ≤ b ∧ b ≤ 64) (hs : s ≤ 8) : ∃ p q : Int, IntKind.i64.wrap (a * b) = p ∧ IntKind.i64.wrap (p * s) = q ∧ a * b = p ∧ p * s = q ∧ 0 ≤ q ∧ q ≤ 32768 := by
  have h1 := mul_bds (show 0 ≤ a by omega) ha.2 (show 0 ≤ b by omega) hb.2
  have h2 := mul_bds (a := 4096) (b := 8) (y := (s : Int)) h1.1 (by omega) (by omega) (by omega)
  exact ⟨a * b, a * b * s, IntWalk.i64_in _ (by omega), IntWalk.i64_in _ (by omega), rfl, rfl, h2.1, by omega⟩

set_option maxRecDepth 100000 in
theorem rivalid_b (f wd ht : Int) (A : Option Addr) (n c : Nat) (l : List Int) (w : World) (hl : l.length = n) :
    Calls Try.prog 20 #[.agg #[.int .i64 f, .int .i64 wd, .int .i64 ht, .slice A n c]] w fun e w' => e = .returned (.bool (decide (Im.mk f wd ht l).ok)) ∧ Below w.heap.size w w' := by
  obtain ⟨a0, a1, a2, a3, BB⟩ := box4 w (.int .i64 f) (.int .i64 wd) (.int .i64 ht) (.slice A n c) 25
  have c1 := fun W => iof_same (rvalid_q f W)
  have c2 := fun W => iof_same (rsized_q wd W)
  have c3 := fun W => iof_same (rsized_q ht W)
  have c4 := fun W => iof_same (rsize_q f W)
  have h8 := nsz_le f
  by_cases hz : nsz f = 0
  · rw [decide_eq_false (fun h : (Im.mk f wd ht l).ok => h.1 hz)]
    rw [show isf f = false by unfold isf; rw [hz]; rfl] at c1
    have C1 := Lib.hid c1
    clear c1 c2 c3 c4 hz h8
    go_enter Try.func20, Try.ntmps20
    go_wp2
    have k_a0 := cell_regrown a0
    have k_a1 := cell_regrown a1
    have k_a2 := cell_regrown a2
    have k_a3 := cell_regrown a3
    refine wp_region_quiet_below (by kernel_rfl) (by kernel_rfl) ?_
    repeat (first | go_big_quiet_step ((first | (go_at_call 46; exact Calls.regrown_of (C1.out _)))) | quiet_step ((first | (go_at_call 46; exact Calls.regrown_of (C1.out _)))))
    refine wpQuiet_nil ?_
    intro W hw'
    have B := below_regrown' hw'
    clear hw' k_a0 k_a1 k_a2 k_a3
    replace BB := bon BB B
    replace a0 := cell_below B a0
    replace a1 := cell_below B a1
    replace a2 := cell_below B a2
    replace a3 := cell_below B a3
    go_wp2
    go_ret
    exact ⟨rfl, BB⟩
  · rw [show isf f = true by unfold isf; simp [hz]] at c1
    unfold sdB at c2 c3
    by_cases hw : 1 ≤ wd ∧ wd ≤ 64
    · rw [decide_eq_true hw] at c2
      by_cases hh : 1 ≤ ht ∧ ht ≤ 64
      · rw [decide_eq_true hh] at c3
        obtain ⟨p, q, g1, g2, e1, e2, q0, q1⟩ := side_prod hw hh h8
        have hd : decide (Im.mk f wd ht l).ok = ((n : Int) == q) := by
          by_cases h : (n : Int) = q
          · rw [decide_eq_true (show (Im.mk f wd ht l).ok from ⟨hz, hw, hh, by show (l.length : Int) = wd * ht * nsz f; rw [e1, e2, hl]; exact h⟩)]
            simp [h]
          · rw [decide_eq_false (fun k : (Im.mk f wd ht l).ok => h (by have := k.2.2.2; simp only at this; rw [e1, e2, hl] at this; exact this))]
            simp [h]
        rw [hd]
        obtain ⟨s, hs⟩ : ∃ s, nsz f = s := ⟨_, rfl⟩
        rw [hs] at c4 g2
        have C1 := Lib.hid c1
        have C2 := Lib.hid c2
        have C3 := Lib.hid c3
        have C4 := Lib.hid c4
        clear c1 c2 c3 c4 e1 e2 hd hz h8 hs
        go_enter Try.func20, Try.ntmps20
        go_wp2
        have k_a0 := cell_regrown a0
        have k_a1 := cell_regrown a1
        have k_a2 := cell_regrown a2
        have k_a3 := cell_regrown a3
        refine wp_region_quiet_below (by kernel_rfl) (by kernel_rfl) ?_
        repeat (first | go_big_quiet_step ((first | (go_at_call 46; exact Calls.regrown_of (C1.out _)) | (go_at_call 47; with_reducible exact Calls.regrown_of (C2.out _)) | (go_at_call 47; with_reducible exact Calls.regrown_of (C3.out _)) | (go_at_call 48; exact Calls.regrown_of (C4.out _)))) | quiet_step ((first | (go_at_call 46; exact Calls.regrown_of (C1.out _)) | (go_at_call 47; with_reducible exact Calls.regrown_of (C2.out _)) | (go_at_call 47; with_reducible exact Calls.regrown_of (C3.out _)) | (go_at_call 48; exact Calls.regrown_of (C4.out _)))))
        refine wpQuiet_nil ?_
        intro W hw'
        have B := below_regrown' hw'
        clear hw' k_a0 k_a1 k_a2 k_a3
        replace BB := bon BB B
        replace a0 := cell_below B a0
        replace a1 := cell_below B a1
        replace a2 := cell_below B a2
        replace a3 := cell_below B a3
        go_wp2
        go_ret
        exact ⟨rfl, BB⟩
      · rw [decide_eq_false hh] at c3
        rw [decide_eq_false (fun h : (Im.mk f wd ht l).ok => hh h.2.2.1)]
        have C1 := Lib.hid c1
        have C2 := Lib.hid c2
        have C3 := Lib.hid c3
        clear c1 c2 c3 c4 hz h8 hh
        go_enter Try.func20, Try.ntmps20
        go_wp2
        have k_a0 := cell_regrown a0
        have k_a1 := cell_regrown a1
        have k_a2 := cell_regrown a2
        have k_a3 := cell_regrown a3
        refine wp_region_quiet_below (by kernel_rfl) (by kernel_rfl) ?_
        repeat (first | go_big_quiet_step ((first | (go_at_call 46; exact Calls.regrown_of (C1.out _)) | (go_at_call 47; with_reducible exact Calls.regrown_of (C2.out _)) | (go_at_call 47; with_reducible exact Calls.regrown_of (C3.out _)))) | quiet_step ((first | (go_at_call 46; exact Calls.regrown_of (C1.out _)) | (go_at_call 47; with_reducible exact Calls.regrown_of (C2.out _)) | (go_at_call 47; with_reducible exact Calls.regrown_of (C3.out _)))))
        refine wpQuiet_nil ?_
        intro W hw'
        have B := below_regrown' hw'
        clear hw' k_a0 k_a1 k_a2 k_a3
        replace BB := bon BB B
        replace a0 := cell_below B a0
        replace a1 := cell_below B a1
        replace a2 := cell_below B a2
        replace a3 := cell_below B a3
        go_wp2
        go_ret
        exact ⟨rfl, BB⟩
    · rw [decide_eq_false hw] at c2
      rw [decide_eq_false (fun h : (Im.mk f wd ht l).ok => hw h.2.1)]
      have C1 := Lib.hid c1
      have C2 := Lib.hid c2
      clear c1 c2 c3 c4 hz h8 hw
      go_enter Try.func20, Try.ntmps20
      go_wp2
      have k_a0 := cell_regrown a0
      have k_a1 := cell_regrown a1
      have k_a2 := cell_regrown a2
      have k_a3 := cell_regrown a3
      refine wp_region_quiet_below (by kernel_rfl) (by kernel_rfl) ?_
      repeat (first | go_big_quiet_step ((first | (go_at_call 46; exact Calls.regrown_of (C1.out _)) | (go_at_call 47; with_reducible exact Calls.regrown_of (C2.out _)))) | quiet_step ((first | (go_at_call 46; exact Calls.regrown_of (C1.out _)) | (go_at_call 47; with_reducible exact Calls.regrown_of (C2.out _)))))
      refine wpQuiet_nil ?_
      intro W hw'
      have B := below_regrown' hw'
      clear hw' k_a0 k_a1 k_a2 k_a3
      replace BB := bon BB B
      replace a0 := cell_below B a0
      replace a1 := cell_below B a1
      replace a2 := cell_below B a2
      replace a3 := cell_below B a3
      go_wp2
      go_ret
      exact ⟨rfl, BB⟩

end Go.Proofs.Ytcjlgfadjedgbaa

/- What Offset, Clone, Get, Equal, inside of the reference of images return. -/
namespace Go.Proofs.Ytcjlgfadjedgbaa
open Go.RowKit Go.Sort

set_option maxRecDepth 100000 in
set_option maxHeartbeats 1000000 in
theorem rioff_b (f wd ht : Int) (A : Option Addr) (n c : Nat) (l : List Int) (x y : Int) (w : World) (hl : l.length = n) :
    Calls Try.prog 49 #[.agg #[.int .i64 f, .int .i64 wd, .int .i64 ht, .slice A n c], .int .i64 x, .int .i64 y] w fun e w' => e = .returned (.int .i64 ((Im.mk f wd ht l).off x y)) ∧ Below w.heap.size w w' := by
  obtain ⟨a0, a1, a2, a3, BB⟩ := box4 w (.int .i64 f) (.int .i64 wd) (.int .i64 ht) (.slice A n c) 25
  have c1 := fun W => rivalid_b f wd ht A n c l W hl
  by_cases hok : (Im.mk f wd ht l).ok
  · rw [decide_eq_true hok] at c1
    have C1 := Lib.hid c1
    clear c1
    obtain ⟨hz, hw, hh, hlen⟩ := hok
    simp only at hz hw hh hlen
    by_cases hi : (0 ≤ x ∧ x < wd) ∧ (0 ≤ y ∧ y < ht)
    · have hins : (Im.mk f wd ht l).ins x y := ⟨⟨hz, hw, hh, hlen⟩, hi⟩
      rw [show (Im.mk f wd ht l).off x y = (y * wd + x) * nsz f from if_pos hins]
      have h8 := nsz_le f
      have c4 := fun W => iof_same (rsize_q f W)
      have h1 := mul_bds (show 0 ≤ y by omega) (show y ≤ 64 by omega) (show 0 ≤ wd by omega) hw.2
      obtain ⟨p, hp⟩ : ∃ p, y * wd = p := ⟨_, rfl⟩
      rw [hp] at h1 ⊢
      have h2 := mul_bds (x := p + x) (a := 4160) (y := (nsz f : Int)) (b := 8) (by omega) (by omega) (by omega) (by omega)
      obtain ⟨s, hs⟩ : ∃ s, nsz f = s := ⟨_, rfl⟩
      rw [hs] at c4 h2 ⊢
      obtain ⟨q, hq⟩ : ∃ q, (p + x) * s = q := ⟨_, rfl⟩
      rw [hq] at h2 ⊢
      have g1 : IntKind.i64.wrap (y * wd) = p := by rw [hp]; exact IntWalk.i64_in _ (by omega)
      have g2 : IntKind.i64.wrap ((p + x) * s) = q := by rw [hq]; exact IntWalk.i64_in _ (by omega)
      have C4 := Lib.hid c4
      obtain ⟨⟨x0, x1⟩, ⟨y0, y1⟩⟩ := hi
      obtain ⟨p0, p1⟩ := h1
      clear c4 hp hq hs hlen hins h2 hz
      go_enter Try.func49, Try.ntmps49
      go_wp2_with (first | (go_at_call 20; refine (C1.out _).mono ?_; rintro _ _ ⟨rfl, B⟩; replace BB := bon BB B; replace a0 := cell_below B a0; replace a1 := cell_below B a1; replace a2 := cell_below B a2; replace a3 := cell_below B a3))
      have k_a0 := cell_regrown a0
      have k_a1 := cell_regrown a1
      have k_a2 := cell_regrown a2
      have k_a3 := cell_regrown a3
      refine wp_region_quiet_below (by kernel_rfl) (by kernel_rfl) ?_
      repeat (first | go_big_quiet_step ((first | (go_at_call 48; exact Calls.regrown_of (C4.out _)))) | quiet_step ((first | (go_at_call 48; exact Calls.regrown_of (C4.out _)))))
      refine wpQuiet_nil ?_
      intro W hw'
      have B := below_regrown' hw'
      clear hw' k_a0 k_a1 k_a2 k_a3
      replace BB := bon BB B
      replace a0 := cell_below B a0
      replace a1 := cell_below B a1
      replace a2 := cell_below B a2
      replace a3 := cell_below B a3
      go_wp2
      go_ret
      exact ⟨rfl, BB⟩
    · rw [show (Im.mk f wd ht l).off x y = -1 from if_neg fun k => hi k.2]
      rcases (show x < 0 ∨ (0 ≤ x ∧ wd ≤ x) ∨ ((0 ≤ x ∧ x < wd) ∧ y < 0) ∨ ((0 ≤ x ∧ x < wd) ∧ (0 ≤ y ∧ ht ≤ y)) by omega) with h | ⟨h1, h2⟩ | ⟨⟨h1, h2⟩, h3⟩ | ⟨⟨h1, h2⟩, ⟨h3, h4⟩⟩
      all_goals
        clear hi hz hlen
        go_enter Try.func49, Try.ntmps49
        go_wp2_with (first | (go_at_call 20; refine (C1.out _).mono ?_; rintro _ _ ⟨rfl, B⟩; replace BB := bon BB B; replace a0 := cell_below B a0; replace a1 := cell_below B a1; replace a2 := cell_below B a2; replace a3 := cell_below B a3))
        go_ret
        exact ⟨rfl, BB⟩
  · rw [decide_eq_false hok] at c1
    rw [show (Im.mk f wd ht l).off x y = -1 from if_neg fun k => hok k.1]
    have C1 := Lib.hid c1
    clear c1 hok
    go_enter Try.func49, Try.ntmps49
    go_wp2_with (first | (go_at_call 20; refine (C1.out _).mono ?_; rintro _ _ ⟨rfl, B⟩; replace BB := bon BB B; replace a0 := cell_below B a0; replace a1 := cell_below B a1; replace a2 := cell_below B a2; replace a3 := cell_below B a3))
    go_ret
    exact ⟨rfl, BB⟩

set_option maxRecDepth 100000 in
theorem riclone_b (f wd ht : Int) (A : Option Addr) (n c : Nat) (l : List Int) (w : World) (R : Rd w w.heap.size .u8 A n l) (hn : n ≤ 140737488351232) :
    Calls Try.prog 36 #[.agg #[.int .i64 f, .int .i64 wd, .int .i64 ht, .slice A n c]] w (GivesIO w 5 (Im.mk f wd ht l)) := by
  have D0 := IBox.made w f wd ht A n c 25
  have B0 := box_below w #[.int .i64 f, .int .i64 wd, .int .i64 ht, .slice A n c] 25
  have z1 : (w.alloc (.cells #[.int .i64 f, .int .i64 wd, .int .i64 ht, .slice A n c] 25)).heap.size = w.heap.size + 1 := by simp
  have D1 := IBox.made (w.alloc (.cells #[.int .i64 f, .int .i64 wd, .int .i64 ht, .slice A n c] 25)) 0 0 0 none 0 0 25
  have B1 := box_below (w.alloc (.cells #[.int .i64 f, .int .i64 wd, .int .i64 ht, .slice A n c] 25)) #[.int .i64 0, .int .i64 0, .int .i64 0, .slice none 0 0] 25
  have D2 := D0.on B1
  have BX := bon B0 B1
  rw [z1] at D1
  clear D0 B0 B1 z1
  have hsz : ((w.alloc (.cells #[.int .i64 f, .int .i64 wd, .int .i64 ht, .slice A n c] 25)).alloc (.cells #[.int .i64 0, .int .i64 0, .int .i64 0, .slice none 0 0] 25)).heap.size = w.heap.size + 2 := by simp
  have RU := R.below BX
  have own0 := Own.nil ((w.alloc (.cells #[.int .i64 f, .int .i64 wd, .int .i64 ht, .slice A n c] 25)).alloc (.cells #[.int .i64 0, .int .i64 0, .int .i64 0, .slice none 0 0] 25)) 5 .u8
  go_enter Try.func36, Try.ntmps36
  go_wp2_with (first
    | (at_builtin; refine wpList_app _ rfl _ _ _ rfl eB own0 rfl RU rfl (by simp only [maxLen]; omega) (by omega) ?_; intro A1 n1 c1 W1 own1 B1; rw [hsz] at B1; replace D2 := D2.below (by omega) B1; replace D1 := D1.below (by omega) B1; have i3 := D2.1.2.2.2; have f3 := D2.2 3; rw [hsz] at own1; clear own0 RU)
    | (refine wpList_iload rfl _ _ rfl imgT (D2.setData A1 n1 c1).1 rfl ?_)
    | (refine wpList_iset rfl _ _ _ rfl rfl rfl (D1.setOther (b' := w.heap.size) (j := 3) (by omega) (.slice A1 n1 c1)) (by kernel_rfl) ?_; intro V2 B2 D3 hg hz; have HG := Lib.hid hg; clear hg))
  obtain ⟨⟨d0, d1, d2, d3⟩, _⟩ := D3
  exact bodyPost_ret (v := .agg #[.int .i64 f, .int .i64 wd, .int .i64 ht, .slice A1 n1 c1]) (by simp [results, Try.results36, go_sem, *]) rfl ⟨A1, n1, c1, rfl, ((own1.past1 (by omega) _ _).past HG.out (by omega)).weak (by omega), (BX.trans (B1.mono (by omega))).trans (((Below.refl _ _).setCell (by simp) _).trans (B2.mono (by omega)))⟩

end Go.Proofs.Ytcjlgfadjedgbaa

/- What Get of the reference of images returns. -/
namespace Go.Proofs.Ytcjlgfadjedgbaa
open Go.RowKit Go.Sort

set_option maxRecDepth 100000 in
set_option maxHeartbeats 1000000 in
theorem riget_b (f wd ht : Int) (A : Option Addr) (n c : Nat) (l : List Int) (x y : Int) (w : World) (R : Rd w w.heap.size .u8 A n l) (hc : n ≤ c) :
    Calls Try.prog 21 #[.agg #[.int .i64 f, .int .i64 wd, .int .i64 ht, .slice A n c], .int .i64 x, .int .i64 y] w (GivesV w ((Im.mk f wd ht l).get x y)) := by
  have D0 := IBox.made w f wd ht A n c 25
  have B0 := box_below w #[.int .i64 f, .int .i64 wd, .int .i64 ht, .slice A n c] 25
  have z1 : (w.alloc (.cells #[.int .i64 f, .int .i64 wd, .int .i64 ht, .slice A n c] 25)).heap.size = w.heap.size + 1 := by simp
  have D1 := VBox.made (w.alloc (.cells #[.int .i64 f, .int .i64 wd, .int .i64 ht, .slice A n c] 25)) 0 0 0 0 44
  have B1 := box_below (w.alloc (.cells #[.int .i64 f, .int .i64 wd, .int .i64 ht, .slice A n c] 25)) #[.int .i64 0, .int .i64 0, .int .i64 0, .int .i64 0] 44
  obtain ⟨⟨i0, i1, i2, i3⟩, _⟩ := D0.on B1
  have BB := bon B0 B1
  rw [z1] at D1
  have co := fun W => rioff_b f wd ht A n c l x y W R.len
  clear D0 B0 B1 z1
  by_cases hi : (Im.mk f wd ht l).ins x y
  · obtain ⟨p, hp, hpl, -⟩ := (Im.mk f wd ht l).off_in hi
    have hg : ∀ i, (Im.mk f wd ht l).get x y i = dec f (part l p (nsz f)) i := fun i => by
      unfold Im.get Im.txl
      rw [if_pos hi, hp, Int.toNat_natCast]
    have hz : nsz f ≠ 0 := hi.1.1
    unfold GivesV
    rw [hg, hg, hg, hg]
    rw [hp] at co
    simp only at hpl
    rw [R.len] at hpl
    have cs := fun W => iof_same (rsize_q f W)
    have hlm : n ≤ 32768 := by have := (Im.mk f wd ht l).len_le hi.1; simp only at this; rw [R.len] at this; exact this
    obtain ⟨b, off, _, rfl, _, _, _, _⟩ := R.byte (j := 0) (by omega)
    have RR := (R.below BB).more BB.size
    have RS := rd_sub (p := p) (q := p + nsz f) (c := c) RR (by omega) hpl hc
    rw [show p + nsz f - p = nsz f by omega] at RS
    have cd := fun d W R h => rdecode_b f (some ⟨b, off + p, none⟩) (nsz f) d (part l p (nsz f)) W R h
    obtain ⟨v, hv⟩ : ∃ v, dec f (part l p (nsz f)) = v := ⟨_, rfl⟩
    rw [hv] at cd ⊢
    obtain ⟨s, hs⟩ : ∃ s, nsz f = s := ⟨_, rfl⟩
    rw [hs] at cd cs RS hpl hz
    obtain ⟨q, hq⟩ : ∃ q, q = p + s := ⟨_, rfl⟩
    have hqs : s = q - p := by omega
    rw [hqs] at cd RS
    have hq2 : (p : Int) + (s : Int) = (q : Int) := by omega
    have hqc : q ≤ c := by omega
    have hpq : p ≤ q := by omega
    have hcp : ¬ c = p := by omega
    have hdc : q - p ≤ c - p := by omega
    have CO := Lib.hid co
    have CS := Lib.hid cs
    have CD := Lib.hid cd
    have HRS := Lib.hid RS
    clear co cs cd RS RR hv hs hq hqs hp hg hi R
    go_enter Try.func21, Try.ntmps21
    go_wp2_with (go_at_call 49; (with_reducible refine (CO.out _).mono ?_); rintro _ W1 ⟨rfl, B⟩; replace i0 := cell_below B i0; replace i1 := cell_below B i1; replace i2 := cell_below B i2; replace i3 := cell_below B i3; replace D1 := D1.on B; replace HRS := Lib.hid (HRS.out.on B); replace BB := bon BB B; clear B)
    have k_i0 := cell_regrown i0
    have k_i1 := cell_regrown i1
    have k_i2 := cell_regrown i2
    have k_i3 := cell_regrown i3
    refine wp_region_tail (n := 12) (by kernel_rfl) (by kernel_rfl) ?_
    simp only [List.take_succ_cons, List.take_zero, List.drop_succ_cons, List.drop_zero]
    repeat (first | go_big_quiet_step ((first | (go_at_call 48; exact Calls.regrown_of (CS.out _)) | (go_at_call 50; exact Calls.regrown_of (CD.out _ _ ((HRS.out.below (below_regrown _ _ _)).more (below_regrown _ _ _).size) hdc)))) | quiet_step ((first | (go_at_call 48; exact Calls.regrown_of (CS.out _)) | (go_at_call 50; exact Calls.regrown_of (CD.out _ _ ((HRS.out.below (below_regrown _ _ _)).more (below_regrown _ _ _).size) hdc)))))
    refine wpQuiet_nil ?_
    intro W hw'
    have B := below_regrown' hw'
    clear hw' k_i0 k_i1 k_i2 k_i3
    replace BB := bon BB B
    replace i0 := cell_below B i0
    replace i1 := cell_below B i1
    replace i2 := cell_below B i2
    replace i3 := cell_below B i3
    replace D1 := D1.on B
    go_wp2_with (refine wpList_vset rfl _ _ _ rfl _ _ _ _ rfl rfl D1 (by kernel_rfl) ?_; intro V2 B2 D3 hD _)
    obtain ⟨⟨d0, d1, d2, d3⟩, _⟩ := D3
    exact bodyPost_ret (v := .agg #[.int .i64 (v 0), .int .i64 (v 1), .int .i64 (v 2), .int .i64 (v 3)]) (by simp [results, Try.results21, go_sem, *]) rfl ⟨rfl, BB.trans (B2.mono (by omega))⟩
  · have hg : ∀ i, (Im.mk f wd ht l).get x y i = 0 := fun i => if_neg hi
    unfold GivesV
    rw [hg, hg, hg, hg]
    rw [(Im.mk f wd ht l).off_out hi] at co
    have CO := Lib.hid co
    clear co hg hi
    go_enter Try.func21, Try.ntmps21
    go_wp2_with (first
      | (go_at_call 49; (with_reducible refine (CO.out _).mono ?_); rintro _ W1 ⟨rfl, B⟩; replace D1 := D1.on B; replace BB := bon BB B; clear B i0 i1 i2 i3)
      | (refine wpList_vset rfl _ _ _ rfl _ _ _ _ rfl rfl D1 (by kernel_rfl) ?_; intro V2 B2 D3 hD _))
    obtain ⟨⟨d0, d1, d2, d3⟩, _⟩ := D3
    exact bodyPost_ret (v := .agg #[.int .i64 0, .int .i64 0, .int .i64 0, .int .i64 0]) (by simp [results, Try.results21, go_sem, *]) rfl ⟨rfl, BB.trans (B2.mono (by omega))⟩

end Go.Proofs.Ytcjlgfadjedgbaa

/- What Equal, inside of the reference of images return. -/
namespace Go.Proofs.Ytcjlgfadjedgbaa
open Go.RowKit Go.Sort

/-- Bytes as a string. -/
theorem iconv {W : World} {B n c : Nat} {A : Option Addr} {l : List Int} (R : Rd W B .u8 A n l) : (convert 23 9 (.slice A n c)).run Try.prog W = .ok (.string (strOfNums l)) W := by
  rcases Nat.eq_zero_or_pos n with rfl | hn
  · obtain rfl : l = [] := List.eq_nil_of_length_eq_zero R.len
    rcases A with _ | a
    · exact run_convert_bytes_nil W 23 5 Try.underlying23 Try.underlying5 0 c 9 Try.underlying9
    · have hl : (loadCells a 0).run Try.prog W = .ok #[] W := by simp [loadCells, loadCellsFrom]
      rw [run_convert_bytes_string W 23 9 5 _ 0 c Try.underlying23 Try.underlying5 Try.underlying9, run_bytesToString W a 0 c [] (by simpa using hl)]
      rfl
  · obtain ⟨b, off, rfl, _, hcell⟩ := R.2.2 hn
    refine run_convert_bytes_arg W 23 5 Try.underlying23 Try.underlying5 b off n c l R.len (fun i hi => ?_) 9 Try.underlying9
    have hl : i < l.length := by rw [R.len]; exact hi
    rw [List.getD, List.getElem?_eq_getElem hl]
    exact hcell i _ (List.getElem?_eq_getElem hl)

set_option maxRecDepth 100000 in
theorem riequal_b (f wd ht : Int) (A A2 : Option Addr) (n n2 c c2 : Nat) (l : List Int) (w : World) (R : Rd w w.heap.size .u8 A n l) (R2 : Rd w w.heap.size .u8 A2 n2 l) :
    Calls Try.prog 13 #[.agg #[.int .i64 f, .int .i64 wd, .int .i64 ht, .slice A n c], .agg #[.int .i64 f, .int .i64 wd, .int .i64 ht, .slice A2 n2 c2]] w fun e w' => e = .returned (.bool true) ∧ Below w.heap.size w w' := by
  obtain ⟨B0, a0, a1, a2, a3, _⟩ := box4_on (Below.refl w.heap.size w) (.int .i64 f) (.int .i64 wd) (.int .i64 ht) (.slice A n c) 25
  obtain ⟨B1, b0, b1, b2, b3, BB⟩ := box4_on B0 (.int .i64 f) (.int .i64 wd) (.int .i64 ht) (.slice A2 n2 c2) 25
  replace a0 := cell_below B1 a0
  replace a1 := cell_below B1 a1
  replace a2 := cell_below B1 a2
  replace a3 := cell_below B1 a3
  have z1 : (w.alloc (.cells #[.int .i64 f, .int .i64 wd, .int .i64 ht, .slice A n c] 25)).heap.size = w.heap.size + 1 := by simp
  rw [z1] at b0 b1 b2 b3
  have v1 := iconv (c := c) (R.below BB)
  have v2 := iconv (c := c2) (R2.below BB)
  obtain ⟨s, hs⟩ : ∃ s, strOfNums l = s := ⟨_, rfl⟩
  rw [hs] at v1 v2
  clear hs R R2 z1 B0 B1
  go_enter Try.func13, Try.ntmps13
  go_wp2
  go_ret
  exact ⟨rfl, BB⟩

def insB (at_ n size : Int) : Bool := decide (0 ≤ at_ ∧ at_ ≤ size ∧ n ≤ size - at_)

end Go.Proofs.Ytcjlgfadjedgbaa

/- What put of the reference of images returns. -/
namespace Go.Proofs.Ytcjlgfadjedgbaa
open Go.RowKit Go.Sort

theorem lput_step {l b : List Int} {p k : Nat} {x : Int} (hp : p + b.length ≤ l.length) (hk : k < b.length) (hx : b[k]? = some x) : (lput l p (b.take k)).set (p + k) x = lput l p (b.take (k + 1)) := by
  have e : (b.take k).length = k := by rw [List.length_take]; omega
  have h := lput_snoc (l := l) (b := b.take k) (p := p) (x := x) (by rw [e]; omega)
  rw [e] at h
  rw [h, List.take_add_one, hx]
  rfl

end Go.Proofs.Ytcjlgfadjedgbaa
