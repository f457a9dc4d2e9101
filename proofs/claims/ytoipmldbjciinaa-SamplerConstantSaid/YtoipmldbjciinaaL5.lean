/- What Valid of textures returns, of the program. -/
import Derived.Test.YtoipmldbjciinaaL3
namespace Go.Proofs.Ytoipmldbjciinaa
open Go.RowKit Go.Sort

/-- Level j is as it should be, below level 0. -/
def lok (m0 : Im) (j : Nat) (m : Im) : Bool := decide (m.ok ∧ m.f = m0.f ∧ m.w = (lsz m0.w m0.h j).1 ∧ m.h = (lsz m0.w m0.h j).2)
/-- The first j levels are. -/
def tvK (ts : List Tx) : Nat → Bool
  | 0 => true
  | j + 1 => tvK ts j && lok (ts.getD 0 default).m j (ts.getD j default).m
def tv (ts : List Tx) : Bool := decide (0 < ts.length) && tvK ts ts.length
theorem tvK_no {ts : List Tx} {j : Nat} (h : lok (ts.getD 0 default).m j (ts.getD j default).m = false) : ∀ n, j < n → tvK ts n = false := by
  intro n hn
  induction n with
  | zero => omega
  | succ n ih =>
    rw [tvK]
    rcases Nat.lt_or_ge j n with k | k
    · rw [ih k, Bool.false_and]
    · obtain rfl : j = n := by omega
      rw [h, Bool.and_false]

theorem lok_cases (m0 m : Im) (j : Nat) {p q : Int} (hp : lsz m0.w m0.h j = (p, q)) :
    (m.ok ∧ m.f = m0.f ∧ m.w = p ∧ m.h = q ∧ lok m0 j m = true) ∨ (lok m0 j m = false ∧ (¬ m.ok ∨ (m.ok ∧ m.f ≠ m0.f) ∨ (m.ok ∧ m.f = m0.f ∧ m.w ≠ p) ∨ (m.ok ∧ m.f = m0.f ∧ m.w = p ∧ m.h ≠ q))) := by
  unfold lok
  rw [hp]
  by_cases h1 : m.ok
  · by_cases h2 : m.f = m0.f
    · by_cases h3 : m.w = p
      · by_cases h4 : m.h = q
        · exact .inl ⟨h1, h2, h3, h4, decide_eq_true ⟨h1, h2, h3, h4⟩⟩
        · exact .inr ⟨decide_eq_false fun k => h4 k.2.2.2, .inr (.inr (.inr ⟨h1, h2, h3, h4⟩))⟩
      · exact .inr ⟨decide_eq_false fun k => h3 k.2.2.1, .inr (.inr (.inl ⟨h1, h2, h3⟩))⟩
    · exact .inr ⟨decide_eq_false fun k => h2 k.2.1, .inr (.inl ⟨h1, h2⟩)⟩
  · exact .inr ⟨decide_eq_false fun k => h1 k.1, .inl h1⟩

set_option maxRecDepth 100000 in
set_option maxHeartbeats 2000000 in
theorem tvalidx_b (A : Option Addr) (n c : Nat) (ts : List Tx) (w : World) (R : RdI w w.heap.size A n ts) (hn : n ≤ 9223372036854775807) :
    Calls Try.prog 51 #[.agg #[.slice A n c]] w fun e w' => e = .returned (.bool (tv ts)) ∧ Below w.heap.size w w' := by
  obtain ⟨a0, BB⟩ := box1 w (.slice A n c) 41
  have JJ := Lib.hid (R.on BB)
  unfold tv
  rw [R.len]
  have HK : Hid (∀ j, tvK ts (j + 1) = (tvK ts j && lok (ts.getD 0 default).m j (ts.getD j default).m)) := Lib.hid fun j => rfl
  have HN := Lib.hid (fun j => tvK_no (ts := ts) (j := j))
  have h0 : Hid (tvK ts 0 = true) := Lib.hid rfl
  obtain ⟨E, hE⟩ : ∃ E, tvK ts = E := ⟨_, rfl⟩
  rw [hE] at HK HN h0 ⊢
  clear hE R
  go_enter Try.func51, Try.ntmps51
  go_wp2
  go_loopw [10] (fun i wr => ∃ j : Nat, j ≤ n ∧ i = .int .i64 j ∧ E j = true ∧ wr.cell? ⟨w.heap.size, 0, none⟩ = some (.slice A n c) ∧ RdI wr wr.heap.size A n ts ∧ Below w.heap.size w wr) (fun i _ => n - (intOf i).toNat)
  case atStart => exact ⟨0, by omega, rfl, h0.out, a0, JJ.out, BB⟩
  case round =>
    clear a0 JJ BB
    obtain ⟨j, hj, rfl, hEj, a0, RJ, BB⟩ := hrel
    have HE := Lib.hid hEj
    clear hEj
    by_cases hlt : j < n
    · obtain ⟨b, off, t, rfl, _, TA, TR, ht⟩ := RJ.at_ hlt
      obtain ⟨b', off', t0, hb', _, TA0, _, ht0⟩ := RJ.at_ (j := 0) (by omega)
      cases hb'
      rw [Nat.zero_mul, Nat.add_zero] at TA0
      have bm := box_below wr #[.int .i64 t.m.f, .int .i64 t.m.w, .int .i64 t.m.h, .slice t.A t.n t.c] 45
      have DM := (IBox.made wr t.m.f t.m.w t.m.h t.A t.n t.c 45).1
      obtain ⟨e0, e1, e2, _⟩ := TA0.on bm
      have a1 := cell_below bm a0
      have JM := Lib.hid (RJ.on bm)
      have BM := bon BB bm
      have hk := HK.out j
      have hno := HN.out j
      rw [List.getD, List.getD, ht, ht0] at hk hno
      simp only [Option.getD_some] at hk hno
      rw [HE.out, Bool.true_and] at hk
      have cv := fun W => pvalid_b t.m.f t.m.w t.m.h t.A t.n t.c t.m.l W TR.1.len
      obtain ⟨⟨p, q⟩, hpq⟩ : ∃ pq, lsz t0.m.w t0.m.h (j : Int) = pq := ⟨_, rfl⟩
      have cl := fun W => levelSize_b t0.m.w t0.m.h (j : Int) W
      rw [hpq] at cl
      unfold GivesII at cl
      simp only at cl
      have hc := lok_cases t0.m t.m j hpq
      have CL := Lib.hid cl
      have j0 : 0 < n := by omega
      clear cl hpq ht ht0 RJ TR TA0 a0 BB bm
      have BB := BM
      clear BM
      go_wp2_with (refine wpList_tload rfl _ _ rfl imgType TA rfl ?_)
      obtain ⟨i0, i1, i2, _⟩ := id DM
      have k_a1 := cell_regrown a1
      have k_i0 := cell_regrown i0
      have k_i1 := cell_regrown i1
      have k_i2 := cell_regrown i2
      have k_e0 := cell_regrown e0
      have k_e1 := cell_regrown e1
      have k_e2 := cell_regrown e2
      refine wp_region_quiet_below (by kernel_rfl) (by kernel_rfl) ?_
      repeat (first | (go_big_quiet_want; refine quiet_iload _ _ rfl imgT (fun W hW => IAt.on DM (below_regrown' hW)) rfl ?_; go_simp; go_big_quiet_on) | go_big_quiet_step ((first | (go_at_call 56; exact Calls.regrown_of (CL.out _)))) | quiet_step ((first | (go_at_call 56; exact Calls.regrown_of (CL.out _)))))
      refine wpQuiet_nil ?_
      intro W hw'
      have B := below_regrown' hw'
      clear hw' k_a1 k_i0 k_i1 k_i2 k_e0 k_e1 k_e2
      replace BB := bon BB B
      replace a1 := cell_below B a1
      replace DM := IAt.on DM B
      replace i0 := cell_below B i0
      replace i1 := cell_below B i1
      replace i2 := cell_below B i2
      replace e0 := cell_below B e0
      replace e1 := cell_below B e1
      replace e2 := cell_below B e2
      have JM2 := Lib.hid (JM.out.on B)
      clear B JM
      go_wp2
      rcases hc with ⟨k1, k2, k3, k4, hz⟩ | ⟨hz, hc⟩
      · rw [hz] at hk
        rw [decide_eq_true (show (Im.mk t.m.f t.m.w t.m.h t.m.l).ok from k1)] at cv
        have CV := Lib.hid cv
        have HK1 := Lib.hid hk
        have t1 : (t.m.f != t0.m.f) = false := by simp [k2]
        have t2 : (t.m.w != p) = false := by simp [k3]
        have t3 : (t.m.h != q) = false := by simp [k4]
        clear cv hk hno hz k1 k2 k3 k4
        have k_a1 := cell_regrown a1
        have k_i0 := cell_regrown i0
        have k_i1 := cell_regrown i1
        have k_i2 := cell_regrown i2
        have k_e0 := cell_regrown e0
        have k_e1 := cell_regrown e1
        have k_e2 := cell_regrown e2
        refine wp_region_quiet_below (by kernel_rfl) (by kernel_rfl) ?_
        repeat (first | (go_big_quiet_want; refine quiet_iload _ _ rfl imgT (fun W hW => IAt.on DM (below_regrown' hW)) rfl ?_; go_simp; go_big_quiet_on) | go_big_quiet_step ((first | (go_at_call 57; exact Calls.regrown_of (CV.out _)))) | quiet_step ((first | (go_at_call 57; exact Calls.regrown_of (CV.out _)))))
        refine wpQuiet_nil ?_
        intro W hw'
        have B := below_regrown' hw'
        clear hw' k_a1 k_i0 k_i1 k_i2 k_e0 k_e1 k_e2
        replace BB := bon BB B
        replace a1 := cell_below B a1
        replace DM := IAt.on DM B
        replace i0 := cell_below B i0
        replace i1 := cell_below B i1
        replace i2 := cell_below B i2
        replace e0 := cell_below B e0
        replace e1 := cell_below B e1
        replace e2 := cell_below B e2
        have JJ := JM2.out.on B
        go_wp2
        go_roundw
        case rel => exact ⟨j + 1, by omega, by go_num, HK1.out, a1, JJ, BB⟩
        case measure => simp [intOf]; omega
      · have hE0 := hno hz n hlt
        have HE0 := Lib.hid hE0
        clear hk hno hz hE0
        rcases hc with k1 | ⟨k1, k2⟩ | ⟨k1, k2, k3⟩ | ⟨k1, k2, k3, k4⟩
        · rw [decide_eq_false (show ¬ (Im.mk t.m.f t.m.w t.m.h t.m.l).ok from k1)] at cv
          have CV := Lib.hid cv
          clear cv k1 
          have k_a1 := cell_regrown a1
          have k_i0 := cell_regrown i0
          have k_i1 := cell_regrown i1
          have k_i2 := cell_regrown i2
          have k_e0 := cell_regrown e0
          have k_e1 := cell_regrown e1
          have k_e2 := cell_regrown e2
          refine wp_region_quiet_below (by kernel_rfl) (by kernel_rfl) ?_
          repeat (first | (go_big_quiet_want; refine quiet_iload _ _ rfl imgT (fun W hW => IAt.on DM (below_regrown' hW)) rfl ?_; go_simp; go_big_quiet_on) | go_big_quiet_step ((first | (go_at_call 57; exact Calls.regrown_of (CV.out _)))) | quiet_step ((first | (go_at_call 57; exact Calls.regrown_of (CV.out _)))))
          refine wpQuiet_nil ?_
          intro W hw'
          have B := below_regrown' hw'
          clear hw' k_a1 k_i0 k_i1 k_i2 k_e0 k_e1 k_e2
          replace BB := bon BB B
          replace a1 := cell_below B a1
          replace DM := IAt.on DM B
          replace i0 := cell_below B i0
          replace i1 := cell_below B i1
          replace i2 := cell_below B i2
          replace e0 := cell_below B e0
          replace e1 := cell_below B e1
          replace e2 := cell_below B e2
          go_wp2
          go_ret
          exact ⟨by rw [HE0.out, Bool.and_false]; rfl, BB⟩
        · rw [decide_eq_true (show (Im.mk t.m.f t.m.w t.m.h t.m.l).ok from k1)] at cv
          have CV := Lib.hid cv
          have t1 : (t.m.f != t0.m.f) = true := by simp [k2]
          clear cv k1 k2
          have k_a1 := cell_regrown a1
          have k_i0 := cell_regrown i0
          have k_i1 := cell_regrown i1
          have k_i2 := cell_regrown i2
          have k_e0 := cell_regrown e0
          have k_e1 := cell_regrown e1
          have k_e2 := cell_regrown e2
          refine wp_region_quiet_below (by kernel_rfl) (by kernel_rfl) ?_
          repeat (first | (go_big_quiet_want; refine quiet_iload _ _ rfl imgT (fun W hW => IAt.on DM (below_regrown' hW)) rfl ?_; go_simp; go_big_quiet_on) | go_big_quiet_step ((first | (go_at_call 57; exact Calls.regrown_of (CV.out _)))) | quiet_step ((first | (go_at_call 57; exact Calls.regrown_of (CV.out _)))))
          refine wpQuiet_nil ?_
          intro W hw'
          have B := below_regrown' hw'
          clear hw' k_a1 k_i0 k_i1 k_i2 k_e0 k_e1 k_e2
          replace BB := bon BB B
          replace a1 := cell_below B a1
          replace DM := IAt.on DM B
          replace i0 := cell_below B i0
          replace i1 := cell_below B i1
          replace i2 := cell_below B i2
          replace e0 := cell_below B e0
          replace e1 := cell_below B e1
          replace e2 := cell_below B e2
          go_wp2
          go_ret
          exact ⟨by rw [HE0.out, Bool.and_false]; rfl, BB⟩
        · rw [decide_eq_true (show (Im.mk t.m.f t.m.w t.m.h t.m.l).ok from k1)] at cv
          have CV := Lib.hid cv
          have t1 : (t.m.f != t0.m.f) = false := by simp [k2]
          have t2 : (t.m.w != p) = true := by simp [k3]
          clear cv k1 k2 k3
          have k_a1 := cell_regrown a1
          have k_i0 := cell_regrown i0
          have k_i1 := cell_regrown i1
          have k_i2 := cell_regrown i2
          have k_e0 := cell_regrown e0
          have k_e1 := cell_regrown e1
          have k_e2 := cell_regrown e2
          refine wp_region_quiet_below (by kernel_rfl) (by kernel_rfl) ?_
          repeat (first | (go_big_quiet_want; refine quiet_iload _ _ rfl imgT (fun W hW => IAt.on DM (below_regrown' hW)) rfl ?_; go_simp; go_big_quiet_on) | go_big_quiet_step ((first | (go_at_call 57; exact Calls.regrown_of (CV.out _)))) | quiet_step ((first | (go_at_call 57; exact Calls.regrown_of (CV.out _)))))
          refine wpQuiet_nil ?_
          intro W hw'
          have B := below_regrown' hw'
          clear hw' k_a1 k_i0 k_i1 k_i2 k_e0 k_e1 k_e2
          replace BB := bon BB B
          replace a1 := cell_below B a1
          replace DM := IAt.on DM B
          replace i0 := cell_below B i0
          replace i1 := cell_below B i1
          replace i2 := cell_below B i2
          replace e0 := cell_below B e0
          replace e1 := cell_below B e1
          replace e2 := cell_below B e2
          go_wp2
          go_ret
          exact ⟨by rw [HE0.out, Bool.and_false]; rfl, BB⟩
        · rw [decide_eq_true (show (Im.mk t.m.f t.m.w t.m.h t.m.l).ok from k1)] at cv
          have CV := Lib.hid cv
          have t1 : (t.m.f != t0.m.f) = false := by simp [k2]
          have t2 : (t.m.w != p) = false := by simp [k3]
          have t3 : (t.m.h != q) = true := by simp [k4]
          clear cv k1 k2 k3 k4
          have k_a1 := cell_regrown a1
          have k_i0 := cell_regrown i0
          have k_i1 := cell_regrown i1
          have k_i2 := cell_regrown i2
          have k_e0 := cell_regrown e0
          have k_e1 := cell_regrown e1
          have k_e2 := cell_regrown e2
          refine wp_region_quiet_below (by kernel_rfl) (by kernel_rfl) ?_
          repeat (first | (go_big_quiet_want; refine quiet_iload _ _ rfl imgT (fun W hW => IAt.on DM (below_regrown' hW)) rfl ?_; go_simp; go_big_quiet_on) | go_big_quiet_step ((first | (go_at_call 57; exact Calls.regrown_of (CV.out _)))) | quiet_step ((first | (go_at_call 57; exact Calls.regrown_of (CV.out _)))))
          refine wpQuiet_nil ?_
          intro W hw'
          have B := below_regrown' hw'
          clear hw' k_a1 k_i0 k_i1 k_i2 k_e0 k_e1 k_e2
          replace BB := bon BB B
          replace a1 := cell_below B a1
          replace DM := IAt.on DM B
          replace i0 := cell_below B i0
          replace i1 := cell_below B i1
          replace i2 := cell_below B i2
          replace e0 := cell_below B e0
          replace e1 := cell_below B e1
          replace e2 := cell_below B e2
          go_wp2
          go_ret
          exact ⟨by rw [HE0.out, Bool.and_false]; rfl, BB⟩
    · obtain rfl : j = n := by omega
      rcases Nat.eq_zero_or_pos j with h0' | h0'
      · subst h0'
        go_wp2
        go_ret
        exact ⟨rfl, BB⟩
      · have hj0 : (0 : Int) < (j : Int) := by omega
        have HD : Hid (decide (0 < j) = true) := Lib.hid (decide_eq_true h0')
        clear h0'
        go_wp2
        go_ret
        exact ⟨by rw [HE.out, HD.out]; rfl, BB⟩

end Go.Proofs.Ytoipmldbjciinaa
