/- Equal of textures, of both; which textures are small. -/
import Derived.Test.YtcjlgfadjedgbaaL2
namespace Go.Proofs.Ytcjlgfadjedgbaa
open Go.RowKit Go.Sort

/-- Are the first j levels equal, all levels? -/
def teqK (ts us : List Tx) : Nat → Bool
  | 0 => true
  | j + 1 => teqK ts us j && eqI (ts.getD j default).m (us.getD j default).m
def teq (ts us : List Tx) : Bool := decide (ts.length = us.length) && teqK ts us ts.length
theorem teqK_no {ts us : List Tx} {j : Nat} (h : eqI (ts.getD j default).m (us.getD j default).m = false) : ∀ n, j < n → teqK ts us n = false := by
  intro n hn
  induction n with
  | zero => omega
  | succ n ih =>
    rw [teqK]
    rcases Nat.lt_or_ge j n with k | k
    · rw [ih k, Bool.false_and]
    · obtain rfl : j = n := by omega
      rw [h, Bool.and_false]
theorem eqI_refl (m : Im) : eqI m m = true := by simp [eqI]
theorem teq_refl (ts : List Tx) : teq ts ts = true := by
  have h : ∀ n, teqK ts ts n = true := by
    intro n
    induction n with
    | zero => rfl
    | succ n ih => rw [teqK, ih, eqI_refl]; rfl
  unfold teq
  rw [h]
  simp

set_option maxRecDepth 100000 in
theorem riequalG_b (f wd ht f2 wd2 ht2 : Int) (A A2 : Option Addr) (n n2 c c2 : Nat) (l l2 : List Int) (w : World) (R : Rd w w.heap.size .u8 A n l) (R2 : Rd w w.heap.size .u8 A2 n2 l2) :
    Calls Try.prog 13 #[.agg #[.int .i64 f, .int .i64 wd, .int .i64 ht, .slice A n c], .agg #[.int .i64 f2, .int .i64 wd2, .int .i64 ht2, .slice A2 n2 c2]] w fun e w' => e = .returned (.bool (eqI ⟨f, wd, ht, l⟩ ⟨f2, wd2, ht2, l2⟩)) ∧ Below w.heap.size w w' := by
  obtain ⟨B0, a0, a1, a2, a3, _⟩ := box4_on (Below.refl w.heap.size w) (.int .i64 f) (.int .i64 wd) (.int .i64 ht) (.slice A n c) 25
  obtain ⟨B1, b0, b1, b2, b3, BB⟩ := box4_on B0 (.int .i64 f2) (.int .i64 wd2) (.int .i64 ht2) (.slice A2 n2 c2) 25
  replace a0 := cell_below B1 a0
  replace a1 := cell_below B1 a1
  replace a2 := cell_below B1 a2
  replace a3 := cell_below B1 a3
  have z1 : (w.alloc (.cells #[.int .i64 f, .int .i64 wd, .int .i64 ht, .slice A n c] 25)).heap.size = w.heap.size + 1 := by simp
  rw [z1] at b0 b1 b2 b3
  have v1 := iconv (c := c) (R.below BB)
  have v2 := iconv (c := c2) (R2.below BB)
  unfold eqI
  dsimp only
  obtain ⟨s, hs⟩ : ∃ s, strOfNums l = s := ⟨_, rfl⟩
  obtain ⟨u, hu⟩ : ∃ u, strOfNums l2 = u := ⟨_, rfl⟩
  rw [hs] at v1 ⊢
  rw [hu] at v2 ⊢
  clear hs hu R R2 z1 B0 B1
  by_cases h1 : f = f2
  · subst h1
    by_cases h2 : wd = wd2
    · subst h2
      by_cases h3 : ht = ht2
      · subst h3
        go_enter Try.func13, Try.ntmps13
        go_wp2
        go_ret
        exact ⟨congrArg (fun b => Ending.returned (.bool b)) (by simp), BB⟩
      · have h3' : (ht == ht2) = false := by simp [h3]
        clear v1 v2
        go_enter Try.func13, Try.ntmps13
        go_wp2
        go_ret
        exact ⟨congrArg (fun b => Ending.returned (.bool b)) (by simp [h3]), BB⟩
    · have h2' : (wd == wd2) = false := by simp [h2]
      clear v1 v2
      go_enter Try.func13, Try.ntmps13
      go_wp2
      go_ret
      exact ⟨congrArg (fun b => Ending.returned (.bool b)) (by simp [h2]), BB⟩
  · have h1' : (f == f2) = false := by simp [h1]
    clear v1 v2
    go_enter Try.func13, Try.ntmps13
    go_wp2
    go_ret
    exact ⟨congrArg (fun b => Ending.returned (.bool b)) (by simp [h1]), BB⟩

set_option maxRecDepth 100000 in
set_option maxHeartbeats 1000000 in
theorem equalFunc_b (A A2 : Option Addr) (n c n2 c2 : Nat) (ts us : List Tx) (w : World) (R : RdI w w.heap.size A n ts) (R2 : RdI w w.heap.size A2 n2 us) (hn : n ≤ 1000) :
    Calls Try.prog 51 #[.slice A n c, .slice A2 n2 c2, .func (.func 52) #[] #[]] w fun e w' => e = .returned (.bool (teq ts us)) ∧ Below w.heap.size w w' := by
  have BB : Below w.heap.size w w := Below.refl _ _
  unfold teq
  rw [R.len, R2.len]
  by_cases hne : n = n2
  · subst hne
    rw [decide_eq_true rfl, Bool.true_and]
    have HK : Hid (∀ j, teqK ts us (j + 1) = (teqK ts us j && eqI (ts.getD j default).m (us.getD j default).m)) := Lib.hid fun j => rfl
    have HN := Lib.hid (fun j => teqK_no (ts := ts) (us := us) (j := j))
    have h0 : Hid (teqK ts us 0 = true) := Lib.hid rfl
    obtain ⟨E, hE⟩ : ∃ E, teqK ts us = E := ⟨_, rfl⟩
    rw [hE] at HK HN h0 ⊢
    have J1 := Lib.hid R
    have J2 := Lib.hid R2
    clear R R2 hE
    go_enter Try.func51, Try.ntmps51
    go_wp2
    go_loopw [17] (fun i wr => ∃ j : Nat, j ≤ n ∧ i = .int .i64 j ∧ E j = true ∧ Below w.heap.size w wr) (fun i _ => n - (intOf i).toNat)
    case atStart => exact ⟨0, by omega, rfl, h0.out, BB⟩
    case round =>
      clear BB
      obtain ⟨j, hj, rfl, hEj, BR⟩ := hrel
      have HE := Lib.hid hEj
      clear hEj
      by_cases hlt : j < n
      · have R1 := J1.out.on BR
        have R2 := J2.out.on BR
        obtain ⟨b, off, t, rfl, hb, TA, TR, ht⟩ := R1.at_ hlt
        obtain ⟨b2, off2, u, rfl, hb2, TA2, TR2, hu⟩ := R2.at_ hlt
        have bm := box_below wr #[.int .i64 t.m.f, .int .i64 t.m.w, .int .i64 t.m.h, .slice t.A t.n t.c] 25
        have DM := IBox.made wr t.m.f t.m.w t.m.h t.A t.n t.c 25
        have bm2 := box_below (wr.alloc (.cells #[.int .i64 t.m.f, .int .i64 t.m.w, .int .i64 t.m.h, .slice t.A t.n t.c] 25)) #[.int .i64 u.m.f, .int .i64 u.m.w, .int .i64 u.m.h, .slice u.A u.n u.c] 25
        have DM2 := IBox.made (wr.alloc (.cells #[.int .i64 t.m.f, .int .i64 t.m.w, .int .i64 t.m.h, .slice t.A t.n t.c] 25)) u.m.f u.m.w u.m.h u.A u.n u.c 25
        have z1 : (wr.alloc (.cells #[.int .i64 t.m.f, .int .i64 t.m.w, .int .i64 t.m.h, .slice t.A t.n t.c] 25)).heap.size = wr.heap.size + 1 := by simp
        replace DM := DM.on bm2
        rw [z1] at DM2
        have TB2 := TA2.on bm
        have bb := bon bm bm2
        have KT := TR.1.on bb
        have KU := TR2.1.on bb
        have BX := bon BR bb
        have hk := HK.out j
        have hno := HN.out j
        rw [List.getD, List.getD, ht, hu] at hk hno
        simp only [Option.getD_some] at hk hno
        rw [HE.out, Bool.true_and] at hk
        have cq := fun W R R2 => pequal_b t.m.f t.m.w t.m.h u.m.f u.m.w u.m.h t.A u.A t.n u.n t.c u.c t.m.l u.m.l W R R2
        have hq : eqI ⟨t.m.f, t.m.w, t.m.h, t.m.l⟩ ⟨u.m.f, u.m.w, u.m.h, u.m.l⟩ = eqI t.m u.m := rfl
        rw [hq] at cq
        clear hq bm bm2 bb z1 TR TR2 ht hu R1 R2 TA2
        rcases hz : eqI t.m u.m with _ | _
        · have hE0 := hno hz n hlt
          rw [hz] at cq
          have CQ := Lib.hid cq
          have HE0 := Lib.hid hE0
          clear cq hk hno hz hE0
          go_wp2_with (first
            | (refine wpList_tload rfl _ _ rfl imgType TA rfl ?_)
            | (refine wpList_tload rfl _ _ rfl imgType TB2 rfl ?_)
            | (refine wpList_iload rfl _ _ rfl imgT DM.1 rfl ?_)
            | (refine wpList_iload rfl _ _ rfl imgT DM2.1 rfl ?_)
            | (go_at_call 52; (with_reducible refine (CQ.out _ KT KU).mono ?_); rintro _ W1 ⟨rfl, B⟩))
          go_ret
          exact ⟨by rw [HE0.out]; rfl, bon BX B⟩
        · rw [hz] at cq hk
          have CQ := Lib.hid cq
          have HK1 := Lib.hid hk
          clear cq hk hno hz
          go_wp2_with (first
            | (refine wpList_tload rfl _ _ rfl imgType TA rfl ?_)
            | (refine wpList_tload rfl _ _ rfl imgType TB2 rfl ?_)
            | (refine wpList_iload rfl _ _ rfl imgT DM.1 rfl ?_)
            | (refine wpList_iload rfl _ _ rfl imgT DM2.1 rfl ?_)
            | (go_at_call 52; (with_reducible refine (CQ.out _ KT KU).mono ?_); rintro _ W1 ⟨rfl, B⟩))
          go_roundw
          case rel => exact ⟨j + 1, by omega, by go_num, HK1.out, bon BX B⟩
          case measure => simp [intOf]; omega
      · obtain rfl : j = n := by omega
        go_wp2
        go_ret
        exact ⟨by rw [HE.out]; rfl, BR⟩
  · rw [decide_eq_false hne, Bool.false_and]
    have t1 : ((n : Int) != n2) = true := by simp; omega
    clear R R2
    go_enter Try.func51, Try.ntmps51
    go_wp2
    go_ret
    exact ⟨rfl, BB⟩

set_option maxRecDepth 100000 in
theorem tequal_b (A A2 : Option Addr) (n c n2 c2 : Nat) (ts us : List Tx) (w : World) (R : RdI w w.heap.size A n ts) (R2 : RdI w w.heap.size A2 n2 us) (hn : n ≤ 1000) :
    Calls Try.prog 27 #[.agg #[.slice A n c], .agg #[.slice A2 n2 c2]] w fun e w' => e = .returned (.bool (teq ts us)) ∧ Below w.heap.size w w' := by
  obtain ⟨c0, B0⟩ := box1 w (.slice A n c) 29
  obtain ⟨d0, B1⟩ := box1 (w.alloc (.cells #[.slice A n c] 29)) (.slice A2 n2 c2) 29
  have z1 : (w.alloc (.cells #[.slice A n c] 29)).heap.size = w.heap.size + 1 := by simp
  rw [z1] at d0
  replace c0 := cell_below B1 c0
  have BB := bon B0 B1
  have J1 := R.on BB
  have J2 := R2.on BB
  have C1 := Lib.hid (fun W R R2 => equalFunc_b A A2 n c n2 c2 ts us W R R2 hn)
  obtain ⟨z, hz⟩ : ∃ z, teq ts us = z := ⟨_, rfl⟩
  rw [hz] at C1 ⊢
  clear R R2 B0 B1 z1 hz
  go_enter Try.func27, Try.ntmps27
  go_wp2_with (go_at_call 51; (refine (C1.out _ J1 J2).mono ?_); rintro _ _ ⟨rfl, B⟩)
  go_ret
  exact ⟨rfl, bon BB B⟩

set_option maxRecDepth 100000 in
set_option maxHeartbeats 1000000 in
theorem rtequal_b (A A2 : Option Addr) (n c n2 c2 : Nat) (ts us : List Tx) (w : World) (R : RdI w w.heap.size A n ts) (R2 : RdI w w.heap.size A2 n2 us) (hn : n ≤ 1000) :
    Calls Try.prog 12 #[.agg #[.slice A n c], .agg #[.slice A2 n2 c2]] w fun e w' => e = .returned (.bool (teq ts us)) ∧ Below w.heap.size w w' := by
  obtain ⟨c0, B0⟩ := box1 w (.slice A n c) 29
  obtain ⟨d0, B1⟩ := box1 (w.alloc (.cells #[.slice A n c] 29)) (.slice A2 n2 c2) 29
  have z1 : (w.alloc (.cells #[.slice A n c] 29)).heap.size = w.heap.size + 1 := by simp
  rw [z1] at d0
  replace c0 := cell_below B1 c0
  have BB := bon B0 B1
  have J1 := Lib.hid (R.on BB)
  have J2 := Lib.hid (R2.on BB)
  unfold teq
  rw [R.len, R2.len]
  clear B0 B1 z1 R R2
  by_cases hne : n = n2
  · subst hne
    rw [decide_eq_true rfl, Bool.true_and]
    have HK : Hid (∀ j, teqK ts us (j + 1) = (teqK ts us j && eqI (ts.getD j default).m (us.getD j default).m)) := Lib.hid fun j => rfl
    have HN := Lib.hid (fun j => teqK_no (ts := ts) (us := us) (j := j))
    have h0 : Hid (teqK ts us 0 = true) := Lib.hid rfl
    obtain ⟨E, hE⟩ : ∃ E, teqK ts us = E := ⟨_, rfl⟩
    rw [hE] at HK HN h0 ⊢
    clear hE
    go_enter Try.func12, Try.ntmps12
    go_wp2
    go_loopw [5] (fun i wr => ∃ j : Nat, j ≤ n ∧ i = .int .i64 j ∧ E j = true ∧ wr.cell? ⟨w.heap.size, 0, none⟩ = some (.slice A n c) ∧ wr.cell? ⟨w.heap.size + 1, 0, none⟩ = some (.slice A2 n c2) ∧ RdI wr wr.heap.size A n ts ∧ RdI wr wr.heap.size A2 n us ∧ Below w.heap.size w wr) (fun i _ => n - (intOf i).toNat)
    case atStart => exact ⟨0, by omega, rfl, h0.out, c0, d0, J1.out, J2.out, BB⟩
    case round =>
      clear BB c0 d0 J1 J2
      obtain ⟨j, hj, rfl, hEj, c0, d0, R1, R2, BB⟩ := hrel
      have HE := Lib.hid hEj
      clear hEj
      by_cases hlt : j < n
      · obtain ⟨b, off, t, rfl, hb, TA, TR, ht⟩ := R1.at_ hlt
        obtain ⟨b2, off2, u, rfl, hb2, TA2, TR2, hu⟩ := R2.at_ hlt
        have KT := TR.1
        have KU := TR2.1
        have J1 := Lib.hid R1
        have J2 := Lib.hid R2
        have hk := HK.out j
        have hno := HN.out j
        rw [List.getD, List.getD, ht, hu] at hk hno
        simp only [Option.getD_some] at hk hno
        rw [HE.out, Bool.true_and] at hk
        have cq := fun W R R2 => riequalG_b t.m.f t.m.w t.m.h u.m.f u.m.w u.m.h t.A u.A t.n u.n t.c u.c t.m.l u.m.l W R R2
        have hq : eqI ⟨t.m.f, t.m.w, t.m.h, t.m.l⟩ ⟨u.m.f, u.m.w, u.m.h, u.m.l⟩ = eqI t.m u.m := rfl
        rw [hq] at cq
        clear hq TR TR2 ht hu R1 R2
        rcases hz : eqI t.m u.m with _ | _
        · have hE0 := hno hz n hlt
          rw [hz] at cq
          have CQ := Lib.hid cq
          have HE0 := Lib.hid hE0
          clear cq hk hno hz hE0
          go_wp2_with fail
          have k_c0 := cell_regrown c0
          have k_d0 := cell_regrown d0
          refine wp_region_quiet_below (by kernel_rfl) (by kernel_rfl) ?_
          repeat (first | (go_big_quiet_want; refine quiet_tload _ _ rfl imgType (fun W hW => TAt.on TA (below_regrown' hW)) rfl ?_; go_simp; go_big_quiet_on) | (go_big_quiet_want; refine quiet_tload _ _ rfl imgType (fun W hW => TAt.on TA2 (below_regrown' hW)) rfl ?_; go_simp; go_big_quiet_on) | go_big_quiet_step ((first | (go_at_call 13; exact Calls.regrown_of (CQ.out _ (KT.on (below_regrown _ _ _)) (KU.on (below_regrown _ _ _)))))) | quiet_step ((first | (go_at_call 13; exact Calls.regrown_of (CQ.out _ (KT.on (below_regrown _ _ _)) (KU.on (below_regrown _ _ _)))))))
          refine wpQuiet_nil ?_
          intro W hw'
          have B := below_regrown' hw'
          clear hw' k_c0 k_d0
          replace BB := bon BB B
          replace c0 := cell_below B c0
          replace d0 := cell_below B d0
          replace TA := TAt.on TA B
          replace TA2 := TAt.on TA2 B
          go_wp2
          go_ret
          exact ⟨by rw [HE0.out]; rfl, BB⟩
        · rw [hz] at cq hk
          have CQ := Lib.hid cq
          have HK1 := Lib.hid hk
          clear cq hk hno hz
          go_wp2_with fail
          have k_c0 := cell_regrown c0
          have k_d0 := cell_regrown d0
          refine wp_region_quiet_below (by kernel_rfl) (by kernel_rfl) ?_
          repeat (first | (go_big_quiet_want; refine quiet_tload _ _ rfl imgType (fun W hW => TAt.on TA (below_regrown' hW)) rfl ?_; go_simp; go_big_quiet_on) | (go_big_quiet_want; refine quiet_tload _ _ rfl imgType (fun W hW => TAt.on TA2 (below_regrown' hW)) rfl ?_; go_simp; go_big_quiet_on) | go_big_quiet_step ((first | (go_at_call 13; exact Calls.regrown_of (CQ.out _ (KT.on (below_regrown _ _ _)) (KU.on (below_regrown _ _ _)))))) | quiet_step ((first | (go_at_call 13; exact Calls.regrown_of (CQ.out _ (KT.on (below_regrown _ _ _)) (KU.on (below_regrown _ _ _)))))))
          refine wpQuiet_nil ?_
          intro W hw'
          have B := below_regrown' hw'
          clear hw' k_c0 k_d0
          replace BB := bon BB B
          replace c0 := cell_below B c0
          replace d0 := cell_below B d0
          replace TA := TAt.on TA B
          replace TA2 := TAt.on TA2 B
          go_wp2
          go_roundw
          case rel => exact ⟨j + 1, by omega, by go_num, HK1.out, c0, d0, J1.out.on B, J2.out.on B, BB⟩
          case measure => simp [intOf]; omega
      · obtain rfl : j = n := by omega
        go_wp2
        go_ret
        exact ⟨by rw [HE.out]; rfl, BB⟩
  · rw [decide_eq_false hne, Bool.false_and]
    have t1 : ((n : Int) != n2) = true := by simp; omega
    clear J1 J2
    go_enter Try.func12, Try.ntmps12
    go_wp2
    go_ret
    exact ⟨rfl, BB⟩

/-- A texture is small, or not: one that is has few levels. -/
def GivesSmall (w : World) (n : Nat) (e : Ending) (w' : World) : Prop := ∃ s, e = .returned (.bool s) ∧ (s = true → n ≤ 10) ∧ Below w.heap.size w w'

theorem small_b (A : Option Addr) (n c : Nat) (ts : List Tx) (w : World) (R : RdI w w.heap.size A n ts) (hn : n ≤ 9223372036854775807) :
    Calls Try.prog 24 #[.agg #[.slice A n c]] w (GivesSmall w n) := by
  obtain ⟨a0, BB⟩ := box1 w (.slice A n c) 29
  have JJ := Lib.hid (R.on BB)
  clear R
  go_enter Try.func24, Try.ntmps24
  go_wp2
  go_loopw [3, 4] (fun s i wr => ∃ (j : Nat) (z : Int), j ≤ n ∧ j ≤ 20 ∧ i = .int .i64 j ∧ s = .int .i64 z ∧ 0 ≤ z ∧ z ≤ 40000 * j ∧ wr.cell? ⟨w.heap.size, 0, none⟩ = some (.slice A n c) ∧ RdI wr wr.heap.size A n ts ∧ Below w.heap.size w wr) (fun _ i _ => 20 - (intOf i).toNat)
  case atStart => exact ⟨0, 0, by omega, by omega, rfl, rfl, by omega, by omega, a0, JJ.out, BB⟩
  case round =>
    clear a0 JJ BB
    obtain ⟨j, z, hj, hj2, rfl, rfl, z0, z1, a0, RJ, BB⟩ := hrel
    by_cases hlt : j < n ∧ j < 20
    · obtain ⟨h1, h2⟩ := hlt
      obtain ⟨b, off, t, rfl, _, TA, TR, ht⟩ := RJ.at_ h1
      obtain ⟨e0, e1, e2, e3⟩ := TA
      have HJ := Lib.hid RJ
      have hjn : (j : Int) < (n : Int) := by omega
      have hj20 : (j : Int) < 20 := by omega
      clear RJ TR ht
      by_cases hbig : (40000 : Int) < (t.n : Int)
      · go_wp2
        go_ret
        exact ⟨false, rfl, (by intro h; cases h), BB⟩
      · go_wp2
        go_roundw
        case rel => exact ⟨j + 1, z + t.n, by omega, by omega, by go_num, rfl, by omega, by omega, a0, HJ.out, BB⟩
        case measure => simp [intOf]; omega
    · have hs : ((j : Int) < (n : Int)) → ¬ ((j : Int) < 20) := by omega
      by_cases h10 : n ≤ 10
      · have hjn : ¬ (j : Int) < (n : Int) := by omega
        have h10' : (n : Int) ≤ 10 := by omega
        clear RJ hs
        go_wp2
        go_ret
        exact ⟨_, rfl, fun _ => h10, BB⟩
      · have h10' : ¬ (n : Int) ≤ 10 := by omega
        clear RJ
        rcases (show ¬ (j : Int) < (n : Int) ∨ ((j : Int) < (n : Int) ∧ ¬ (j : Int) < 20) by omega) with h1 | ⟨h1, h2⟩
        all_goals
          clear hs
          go_wp2
          go_ret
          exact ⟨false, rfl, (by intro h; cases h), BB⟩

end Go.Proofs.Ytcjlgfadjedgbaa
