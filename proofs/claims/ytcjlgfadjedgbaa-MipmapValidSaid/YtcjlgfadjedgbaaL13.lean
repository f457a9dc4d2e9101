/- The walks of MipmapChain and MipmapValid. -/
import Derived.Test.YtcjlgfadjedgbaaL11
import Derived.Test.YtcjlgfadjedgbaaL12
namespace Go.Proofs.Ytcjlgfadjedgbaa
open Go.RowKit Go.Sort Go.ChangeShapes Go.WideShapes
set_option linter.unusedVariables false

theorem teq_map {ts us : List Tx} (h : ts.map Tx.m = us.map Tx.m) : teq ts us = true := by
  have hl : ts.length = us.length := by simpa using congrArg List.length h
  have hj : ∀ j, j < ts.length → (ts.getD j default).m = (us.getD j default).m := by
    intro j hj
    have h1 : (ts.map Tx.m)[j]? = (us.map Tx.m)[j]? := by rw [h]
    rw [List.getElem?_map, List.getElem?_map, List.getElem?_eq_getElem hj, List.getElem?_eq_getElem (by omega)] at h1
    rw [List.getD, List.getD, List.getElem?_eq_getElem hj, List.getElem?_eq_getElem (by omega)]
    simpa using h1
  have hk : ∀ n, n ≤ ts.length → teqK ts us n = true := by
    intro n
    induction n with
    | zero => intro _; rfl
    | succ n ih => intro hn; rw [teqK, ih (by omega), hj n (by omega), eqI_refl]; rfl
  unfold teq
  rw [decide_eq_true hl, hk _ (Nat.le_refl _)]
  rfl

section
variable {P : Program} {ops : Array Oper} {Q : Exit → Act → World → Prop} {rest : List Oper} {a : Act} {W : World}
theorem tloadL {dst : Option Tmp} {ty t : TypeId} {x : Operand} {pos : String} {after : Array Edge} {b o : Nat} {u : Tx} (T : ImgType P t) (k : TAt W b o u) (hx : a.eval x = .pointer (some ⟨b, o, none⟩))
    (H : wpList P ops Q rest (a.put dst (.agg #[.int .i64 u.m.f, .int .i64 u.m.w, .int .i64 u.m.h, .slice u.A u.n u.c])) W) : wpList P ops Q ({ dst := dst, op := .load t x, type := ty, pos := pos, after := after, guard := none } :: rest) a W :=
  wpList_tload rfl t x rfl T k hx H
end

set_option maxRecDepth 100000 in
set_option maxHeartbeats 4000000 in
theorem chain_walk (f wd ht : Int) (A : Option Addr) (n c : Nat) (l : List Int) (w : World) (R : Rd w w.heap.size .u8 A n l) (hc : n ≤ c) (hn : n ≤ 140737488351232) :
    Calls Try.prog 3 #[.agg #[.int .i64 f, .int .i64 wd, .int .i64 ht, .slice A n c]] w fun e w' => e = .returned (.bool true) ∧ Below w.heap.size w w' := by
  obtain ⟨j0, j1, j2, j3, BB⟩ := box4 w (.int .i64 f) (.int .i64 wd) (.int .i64 ht) (.slice A n c) 25
  have K0 := R.on BB
  have D : IAt (w.alloc (.cells #[.int .i64 f, .int .i64 wd, .int .i64 ht, .slice A n c] 25)) w.heap.size f wd ht A n c := ⟨j0, j1, j2, j3⟩
  have CX := Lib.hid (fun W => lexample_b W)
  by_cases hbig : (40000 : Int) < (n : Int)
  · clear K0 D R hn
    go_enter Try.func3, Try.ntmps3
    go_wp2_with (go_at_call 9; (with_reducible refine (CX.out _).mono ?_); rintro _ W9 ⟨rfl, B⟩; replace BB := bon BB B)
    go_ret
    exact ⟨rfl, BB⟩
  have CP := Lib.hid (fun W R => pchain_b f wd ht A n c l W R hn)
  have CR := Lib.hid (fun W R => rchain_b f wd ht A n c l W R hn)
  have cq := fun W R => (preduce_b f wd ht A n c l W R hc hn).mono (R' := fun e w' => ∃ A n c, e = .returned (.agg #[.int .i64 (Im.mk f wd ht l).red.f, .int .i64 (Im.mk f wd ht l).red.w, .int .i64 (Im.mk f wd ht l).red.h, .slice A n c]) ∧ Rd w' w'.heap.size .u8 A n (Im.mk f wd ht l).red.l ∧ Below W.heap.size W w') (by rintro _ _ ⟨A, n, c, rfl, own, B⟩; exact ⟨A, n, c, rfl, own.rd, B⟩)
  have cs := fun W R => (rreduce_b f wd ht A n c l W R hc hn).mono (R' := fun e w' => ∃ A n c, e = .returned (.agg #[.int .i64 (Im.mk f wd ht l).red.f, .int .i64 (Im.mk f wd ht l).red.w, .int .i64 (Im.mk f wd ht l).red.h, .slice A n c]) ∧ Rd w' w'.heap.size .u8 A n (Im.mk f wd ht l).red.l ∧ Below W.heap.size W w') (by rintro _ _ ⟨A, n, c, rfl, own, B⟩; exact ⟨A, n, c, rfl, own.rd, B⟩)
  obtain ⟨⟨f2, w2, h2, l2⟩, hred⟩ : ∃ r, (Im.mk f wd ht l).red = r := ⟨_, rfl⟩
  simp only [hred] at cq cs
  have hlen : (chain (Im.mk f wd ht l)).length ≤ 7 := by unfold chain; simp only [List.length_map, List.length_range]; exact nlv_le _ _
  unfold GivesT at CP CR
  obtain ⟨er, her⟩ : ∃ er : Int, (if (Im.mk f wd ht l).ok then (0 : Int) else 2) = er := ⟨_, rfl⟩
  obtain ⟨ch, hch⟩ : ∃ ch, (if (Im.mk f wd ht l).ok then chain (Im.mk f wd ht l) else []) = ch := ⟨_, rfl⟩
  have hl7 : ch.length ≤ 7 := by rw [← hch]; split; exact hlen; simp
  rw [her, hch] at CP CR
  have CQ := Lib.hid cq
  have CS := Lib.hid cs
  clear cq cs hred hlen her hch R hn
  go_enter Try.func3, Try.ntmps3
  go_wp2_with (first
    | ((with_reducible refine iloadL imgT D ?_ ?_); focus rfl)
    | (go_at_call 10; (with_reducible refine (CP.out _ K0).mono ?_); rintro _ W1 ⟨A3, n3, c3, ts3, rfl, hc3, J3, ht3, B⟩; (replace BB := bon BB B; replace j0 := cell_below B j0; replace j1 := cell_below B j1; replace j2 := cell_below B j2; replace j3 := cell_below B j3; replace K0 := Rd.on K0 B); replace D := D.on B; clear B; have x3 := (XBox.made W1 (.slice A3 n3 c3) 29).1; have B := box_below W1 #[.slice A3 n3 c3] 29; (replace BB := bon BB B; replace j0 := cell_below B j0; replace j1 := cell_below B j1; replace j2 := cell_below B j2; replace j3 := cell_below B j3; replace K0 := Rd.on K0 B); replace D := D.on B; replace J3 := J3.on B; clear B)
    | (go_at_call 11; (with_reducible refine (CR.out _ K0).mono ?_); rintro _ W2 ⟨A5, n5, c5, ts5, rfl, hc5, J5, ht5, B⟩; (replace BB := bon BB B; replace j0 := cell_below B j0; replace j1 := cell_below B j1; replace j2 := cell_below B j2; replace j3 := cell_below B j3; replace K0 := Rd.on K0 B); replace D := D.on B; replace J3 := J3.on B; replace x3 := cell_below B x3; clear B; have x5 := (XBox.made W2 (.slice A5 n5 c5) 29).1; have B := box_below W2 #[.slice A5 n5 c5] 29; (replace BB := bon BB B; replace j0 := cell_below B j0; replace j1 := cell_below B j1; replace j2 := cell_below B j2; replace j3 := cell_below B j3; replace K0 := Rd.on K0 B); replace D := D.on B; replace J3 := J3.on B; replace J5 := J5.on B; replace x3 := cell_below B x3; clear B))
  have hz : teq ts3 ts5 = true := teq_map (by rw [ht3, ht5])
  have hn3 : n3 ≤ 1000 := by have h1 := J3.len; have h2 : ts3.length = ch.length := by rw [← ht3, List.length_map]
                             omega
  have CE := Lib.hid (fun W R R2 => rtequal_b A3 A5 n3 c3 n5 c5 ts3 ts5 W R R2 hn3)
  rw [hz] at CE
  have CI := Lib.hid (fun A7 A8 n7 n8 c7 c8 W R R2 => riequal_b f2 w2 h2 A7 A8 n7 n8 c7 c8 l2 W R R2)
  clear CP CR ht3 ht5 hz hn3 hl7 D
  have hee : (er == er) = true := by simp
  obtain ⟨b3, hb3⟩ : ∃ b, W1.heap.size = b := ⟨_, rfl⟩
  obtain ⟨b5, hb5⟩ : ∃ b, W2.heap.size = b := ⟨_, rfl⟩
  rw [hb3] at x3 ⊢
  rw [hb5] at x5 ⊢
  clear hb3 hb5
  refine wp_region_grow [0, 1, 2, 3, 4, 5, 6, 7, 8, 9, 11, 10, 12, 13, 14, 15, 16, 17, 18] (by kernel_rfl) (by kernel_rfl) ?_
  intro W B
  replace BB := bon BB B
  replace j0 := cell_below B j0
  replace j1 := cell_below B j1
  replace j2 := cell_below B j2
  replace j3 := cell_below B j3
  replace x3 := cell_below B x3
  replace x5 := cell_below B x5
  replace J3 := RdI.on J3 B
  replace J5 := RdI.on J5 B
  replace K0 := Rd.on K0 B
  clear B
  have k_j0 := cell_regrown j0
  have k_j1 := cell_regrown j1
  have k_j2 := cell_regrown j2
  have k_j3 := cell_regrown j3
  have k_x3 := cell_regrown x3
  have k_x5 := cell_regrown x5
  refine grow_read rfl rfl ?_
  (first | go_big_quiet_step (fail) | quiet_step (fail))
  refine wpQuiet_nil ?_
  refine grow_read rfl rfl ?_
  (first | go_big_quiet_step (fail) | quiet_step (fail))
  refine wpQuiet_nil ?_
  refine grow_read rfl rfl ?_
  (first | go_big_quiet_step (fail) | quiet_step (fail))
  refine wpQuiet_nil ?_
  refine grow_read rfl rfl ?_
  (first | go_big_quiet_step (fail) | quiet_step (fail))
  refine wpQuiet_nil ?_
  refine grow_read rfl rfl ?_
  (first | go_big_quiet_step (fail) | quiet_step (fail))
  refine wpQuiet_nil ?_
  refine grow_read rfl rfl ?_
  (first | go_big_quiet_step (fail) | quiet_step (fail))
  refine wpQuiet_nil ?_
  clear k_j0 k_j1 k_j2 k_j3 k_x3 k_x5
  refine grow_call rfl rfl ?_
  go_wp2_with (go_at_call 12; refine (CE.out _ J3 J5).mono ?_; rintro _ _ ⟨rfl, B⟩; replace BB := bon BB B; replace j0 := cell_below B j0; replace j1 := cell_below B j1; replace j2 := cell_below B j2; replace j3 := cell_below B j3; replace x3 := cell_below B x3; replace x5 := cell_below B x5; replace J3 := RdI.on J3 B; replace J5 := RdI.on J5 B; replace K0 := Rd.on K0 B)
  refine ⟨Grows.of B, ?_⟩
  clear B
  have k_j0 := cell_regrown j0
  have k_j1 := cell_regrown j1
  have k_j2 := cell_regrown j2
  have k_j3 := cell_regrown j3
  have k_x3 := cell_regrown x3
  have k_x5 := cell_regrown x5
  refine grow_read rfl rfl ?_
  (first | go_big_quiet_step (fail) | quiet_step (fail))
  refine wpQuiet_nil ?_
  refine grow_read rfl rfl ?_
  (first | go_big_quiet_step (fail) | quiet_step (fail))
  refine wpQuiet_nil ?_
  refine grow_read rfl rfl ?_
  (first | go_big_quiet_step (fail) | quiet_step (fail))
  refine wpQuiet_nil ?_
  refine grow_read rfl rfl ?_
  (first | go_big_quiet_step (fail) | quiet_step (fail))
  refine wpQuiet_nil ?_
  clear k_j0 k_j1 k_j2 k_j3 k_x3 k_x5
  refine grow_call rfl rfl ?_
  go_wp2_with (go_at_call 14; refine (CQ.out _ K0).mono ?_; rintro _ _ ⟨A7, n7, c7, rfl, K7, B⟩; replace BB := bon BB B; replace j0 := cell_below B j0; replace j1 := cell_below B j1; replace j2 := cell_below B j2; replace j3 := cell_below B j3; replace x3 := cell_below B x3; replace x5 := cell_below B x5; replace J3 := RdI.on J3 B; replace J5 := RdI.on J5 B; replace K0 := Rd.on K0 B)
  refine ⟨Grows.of B, ?_⟩
  clear B
  have k_j0 := cell_regrown j0
  have k_j1 := cell_regrown j1
  have k_j2 := cell_regrown j2
  have k_j3 := cell_regrown j3
  have k_x3 := cell_regrown x3
  have k_x5 := cell_regrown x5
  clear k_j0 k_j1 k_j2 k_j3 k_x3 k_x5
  refine grow_call rfl rfl ?_
  go_wp2_with (go_at_call 15; refine (CS.out _ K0).mono ?_; rintro _ _ ⟨A8, n8, c8, rfl, K8, B⟩; replace BB := bon BB B; replace j0 := cell_below B j0; replace j1 := cell_below B j1; replace j2 := cell_below B j2; replace j3 := cell_below B j3; replace x3 := cell_below B x3; replace x5 := cell_below B x5; replace J3 := RdI.on J3 B; replace J5 := RdI.on J5 B; replace K0 := Rd.on K0 B; replace K7 := Rd.on K7 B)
  refine ⟨Grows.of B, ?_⟩
  clear B
  have k_j0 := cell_regrown j0
  have k_j1 := cell_regrown j1
  have k_j2 := cell_regrown j2
  have k_j3 := cell_regrown j3
  have k_x3 := cell_regrown x3
  have k_x5 := cell_regrown x5
  clear k_j0 k_j1 k_j2 k_j3 k_x3 k_x5
  refine grow_call rfl rfl ?_
  go_wp2_with (go_at_call 13; refine (CI.out _ _ _ _ _ _ _ K7 K8).mono ?_; rintro _ _ ⟨rfl, B⟩; replace BB := bon BB B; replace j0 := cell_below B j0; replace j1 := cell_below B j1; replace j2 := cell_below B j2; replace j3 := cell_below B j3; replace x3 := cell_below B x3; replace x5 := cell_below B x5; replace J3 := RdI.on J3 B; replace J5 := RdI.on J5 B; replace K0 := Rd.on K0 B; replace K7 := Rd.on K7 B; replace K8 := Rd.on K8 B)
  refine ⟨Grows.of B, ?_⟩
  clear B
  have k_j0 := cell_regrown j0
  have k_j1 := cell_regrown j1
  have k_j2 := cell_regrown j2
  have k_j3 := cell_regrown j3
  have k_x3 := cell_regrown x3
  have k_x5 := cell_regrown x5
  refine grow_read rfl rfl ?_
  (first | go_big_quiet_step (fail) | quiet_step (fail))
  refine wpQuiet_nil ?_
  refine grow_read rfl rfl ?_
  (first | go_big_quiet_step (fail) | quiet_step (fail))
  refine wpQuiet_nil ?_
  clear k_j0 k_j1 k_j2 k_j3 k_x3 k_x5
  refine grow_call rfl rfl ?_
  go_wp2_with (go_at_call 9; refine (CX.out _).mono ?_; rintro _ _ ⟨rfl, B⟩; replace BB := bon BB B; replace j0 := cell_below B j0; replace j1 := cell_below B j1; replace j2 := cell_below B j2; replace j3 := cell_below B j3; replace x3 := cell_below B x3; replace x5 := cell_below B x5; replace J3 := RdI.on J3 B; replace J5 := RdI.on J5 B; replace K0 := Rd.on K0 B; replace K7 := Rd.on K7 B; replace K8 := Rd.on K8 B)
  refine ⟨Grows.of B, ?_⟩
  clear B
  have k_j0 := cell_regrown j0
  have k_j1 := cell_regrown j1
  have k_j2 := cell_regrown j2
  have k_j3 := cell_regrown j3
  have k_x3 := cell_regrown x3
  have k_x5 := cell_regrown x5
  refine grow_read rfl rfl ?_
  (first | go_big_quiet_step (fail) | quiet_step (fail))
  refine wpQuiet_nil ?_
  refine grow_read rfl rfl ?_
  (first | go_big_quiet_step (fail) | quiet_step (fail))
  refine wpQuiet_nil ?_
  clear k_j0 k_j1 k_j2 k_j3 k_x3 k_x5
  refine grow_nil ?_
  go_wp2
  go_ret
  exact ⟨rfl, BB⟩

/-- .. whose levels' bytes are few. -/
def GivesSmall2 (w : World) (n : Nat) (ts : List Tx) (e : Ending) (w' : World) : Prop := ∃ s, e = .returned (.bool s) ∧ (s = true → n ≤ 10 ∧ ∀ t ∈ ts, t.n ≤ 40000) ∧ Below w.heap.size w w'

theorem small2_b (A : Option Addr) (n c : Nat) (ts : List Tx) (w : World) (R : RdI w w.heap.size A n ts) (hn : n ≤ 9223372036854775807) :
    Calls Try.prog 24 #[.agg #[.slice A n c]] w (GivesSmall2 w n ts) := by
  obtain ⟨a0, BB⟩ := box1 w (.slice A n c) 29
  have JJ := Lib.hid (R.on BB)
  have hl := R.len
  clear R
  go_enter Try.func24, Try.ntmps24
  go_wp2
  go_loopw [3, 4] (fun s i wr => ∃ (j : Nat) (z : Int), j ≤ n ∧ j ≤ 20 ∧ i = .int .i64 j ∧ s = .int .i64 z ∧ 0 ≤ z ∧ z ≤ 40000 * j ∧ (∀ k t, k < j → ts[k]? = some t → t.n ≤ 40000) ∧ wr.cell? ⟨w.heap.size, 0, none⟩ = some (.slice A n c) ∧ RdI wr wr.heap.size A n ts ∧ Below w.heap.size w wr) (fun _ i _ => 20 - (intOf i).toNat)
  case atStart => exact ⟨0, 0, by omega, by omega, rfl, rfl, by omega, by omega, fun k t hk => by omega, a0, JJ.out, BB⟩
  case round =>
    clear a0 JJ BB
    obtain ⟨j, z, hj, hj2, rfl, rfl, z0, z1, hall0, a0, RJ, BB⟩ := hrel
    have hall := Lib.hid hall0
    clear hall0
    by_cases hlt : j < n ∧ j < 20
    · obtain ⟨h1, h2⟩ := hlt
      obtain ⟨b, off, t, rfl, _, TA, TR, ht⟩ := RJ.at_ h1
      obtain ⟨e0, e1, e2, e3⟩ := TA
      have HJ := Lib.hid RJ
      have HT := Lib.hid ht
      have hjn : (j : Int) < (n : Int) := by omega
      have hj20 : (j : Int) < 20 := by omega
      clear RJ TR ht
      by_cases hbig : (40000 : Int) < (t.n : Int)
      · go_wp2
        go_ret
        exact ⟨false, rfl, (by intro h; cases h), BB⟩
      · go_wp2
        go_roundw
        case rel => exact ⟨j + 1, z + t.n, by omega, by omega, by go_num, rfl, by omega, by omega, fun k u hk hu => by
          rcases Nat.lt_or_ge k j with h | h
          · exact hall.out k u h hu
          · obtain rfl : k = j := by omega
            rw [HT.out] at hu
            injection hu with hu
            subst hu
            omega, a0, HJ.out, BB⟩
        case measure => simp [intOf]; omega
    · have hs : ((j : Int) < (n : Int)) → ¬ ((j : Int) < 20) := by omega
      by_cases h10 : n ≤ 10
      · have hjn : ¬ (j : Int) < (n : Int) := by omega
        have h10' : (n : Int) ≤ 10 := by omega
        clear RJ hs
        go_wp2
        go_ret
        exact ⟨_, rfl, fun _ => ⟨h10, fun t ht => by
          obtain ⟨k, hk⟩ := List.mem_iff_getElem?.1 ht
          have := (List.getElem?_eq_some_iff.1 hk).1
          exact hall.out k t (by omega) hk⟩, BB⟩
      · have h10' : ¬ (n : Int) ≤ 10 := by omega
        clear RJ
        rcases (show ¬ (j : Int) < (n : Int) ∨ ((j : Int) < (n : Int) ∧ ¬ (j : Int) < 20) by omega) with h1 | ⟨h1, h2⟩
        all_goals
          clear hs
          go_wp2
          go_ret
          exact ⟨false, rfl, (by intro h; cases h), BB⟩

set_option maxRecDepth 100000 in
set_option maxHeartbeats 4000000 in
theorem valid_walk (A : Option Addr) (n c : Nat) (ts : List Tx) (w : World) (R : RdI w w.heap.size A n ts) (hn : n ≤ 9223372036854775807) :
    Calls Try.prog 6 #[.agg #[.slice A n c]] w fun e w' => e = .returned (.bool true) ∧ Below w.heap.size w w' := by
  obtain ⟨a0, BB⟩ := box1 w (.slice A n c) 29
  have J1 := R.on BB
  have CS := Lib.hid (fun W R => small2_b A n c ts W R hn)
  have CX := Lib.hid (fun W => lexample_b W)
  have CV := Lib.hid (fun W R => tvalidx_b A n c ts W R hn)
  have CR := Lib.hid (fun W R => rtvalidx_b A n c ts W R hn)
  obtain ⟨z, hz⟩ : ∃ z, tv ts = z := ⟨_, rfl⟩
  rw [hz] at CV CR
  have hzz : (z != z) = false := by simp
  unfold GivesSmall2 at CS
  clear R hz
  go_enter Try.func6, Try.ntmps6
  go_wp2_with (first
    | (go_at_call 24; (with_reducible refine (CS.out _ J1).mono ?_); rintro _ W1 ⟨s1, rfl, hs1, B⟩; (replace BB := bon BB B; replace a0 := cell_below B a0; replace J1 := RdI.on J1 B); clear B; have HS1 := Lib.hid hs1; clear hs1; rcases s1 with _ | _)
    | (go_at_call 9; (with_reducible refine (CX.out _).mono ?_); rintro _ W9 ⟨rfl, B⟩; (replace BB := bon BB B; replace a0 := cell_below B a0; replace J1 := RdI.on J1 B); clear B))
  · go_ret
    exact ⟨rfl, BB⟩
  obtain ⟨h10, hsm⟩ := HS1.out (by first | rfl | trivial)
  have HSM := Lib.hid hsm
  clear CS HS1 hsm
  have k_a0 := cell_regrown a0
  refine wp_region_quiet_below (by kernel_rfl) (by kernel_rfl) ?_
  repeat (first | go_big_quiet_step ((first | (go_at_call 25; exact Calls.regrown_of (CV.out _ (J1.on (below_regrown _ _ _)))) | (go_at_call 26; exact Calls.regrown_of (CR.out _ (J1.on (below_regrown _ _ _)))))) | quiet_step ((first | (go_at_call 25; exact Calls.regrown_of (CV.out _ (J1.on (below_regrown _ _ _)))) | (go_at_call 26; exact Calls.regrown_of (CR.out _ (J1.on (below_regrown _ _ _)))))))
  refine wpQuiet_nil ?_
  intro W hw'
  have B := below_regrown' hw'
  clear hw' k_a0
  replace BB := bon BB B
  replace a0 := cell_below B a0
  replace J1 := RdI.on J1 B
  clear CV CR B
  go_wp2
  go_loopw [3] (fun i wr => ∃ j : Nat, j ≤ n ∧ i = .int .i64 j ∧ wr.cell? ⟨w.heap.size, 0, none⟩ = some (.slice A n c) ∧ RdI wr wr.heap.size A n ts ∧ Below w.heap.size w wr) (fun i _ => n - (intOf i).toNat)
  case atStart => exact ⟨0, by omega, rfl, a0, J1, BB⟩
  case round =>
    clear a0 J1 BB
    obtain ⟨j, hj, rfl, a0, J1, BB⟩ := hrel
    by_cases hlt : j < n
    · obtain ⟨b, off, t, rfl, _, TA, TR, ht⟩ := J1.at_ hlt
      have htn := HSM.out t (List.mem_of_getElem? ht)
      have cc := fun W R => pchain_b t.m.f t.m.w t.m.h t.A t.n t.c t.m.l W R (by omega)
      have cv := fun W => rivalid_b t.m.f t.m.w t.m.h t.A t.n t.c t.m.l W TR.1.len
      unfold GivesT at cc
      have K1 := TR.1
      have JH := Lib.hid J1
      clear J1 TR ht
      by_cases hok : t.m.ok
      · have hct := chain_tok hok
        have hlen : (chain t.m).length ≤ 7 := by unfold chain; simp only [List.length_map, List.length_range]; exact nlv_le _ _
        simp only [if_pos (show (Im.mk t.m.f t.m.w t.m.h t.m.l).ok from hok)] at cc
        rw [decide_eq_true (show (Im.mk t.m.f t.m.w t.m.h t.m.l).ok from hok)] at cv
        have CC := Lib.hid cc
        have CV := Lib.hid cv
        have HCT := Lib.hid hct
        clear cc cv hct hok
        go_wp2_with (first
          | ((with_reducible refine tloadL imgType TA ?_ ?_); focus rfl)
          | (go_at_call 10; (with_reducible refine (CC.out _ K1).mono ?_); rintro _ W2 ⟨A4, n4, c4, us, rfl, hc4, R4, hus, B⟩; (replace BB := bon BB B; replace a0 := cell_below B a0); replace TA := TA.on B; have J2 := Lib.hid (JH.out.on B); clear B; have x4 := (XBox.made W2 (.slice A4 n4 c4) 29).1; have B := box_below W2 #[.slice A4 n4 c4] 29; (replace BB := bon BB B; replace a0 := cell_below B a0); replace TA := TA.on B; have J3 := Lib.hid (J2.out.on B); replace R4 := R4.on B; clear B K1 JH J2)
          | (go_at_call 20; (with_reducible refine (CV.out _).mono ?_); rintro _ W3 ⟨rfl, B⟩; (replace BB := bon BB B; replace a0 := cell_below B a0); have J4 := Lib.hid (J3.out.on B); replace R4 := R4.on B; replace x4 := cell_below B x4; clear B J3)
          | (go_at_call 25; (refine (tvalidx_b A4 n4 c4 us _ R4 (by have h1 := R4.len; have h2 : us.length ≤ 7 := (by rw [← List.length_map (f := Tx.m), hus]; exact hlen); omega)).mono ?_); rw [tok_tv (by rw [hus]; exact HCT.out)]; rintro _ W4 ⟨rfl, B⟩; (replace BB := bon BB B; replace a0 := cell_below B a0); have J5 := Lib.hid (J4.out.on B); clear B J4))
        go_roundw
        case rel => exact ⟨j + 1, by omega, by go_num, a0, J5.out, BB⟩
        case measure => simp [intOf]; omega
      · simp only [if_neg (show ¬ (Im.mk t.m.f t.m.w t.m.h t.m.l).ok from hok)] at cc
        rw [decide_eq_false (show ¬ (Im.mk t.m.f t.m.w t.m.h t.m.l).ok from hok)] at cv
        have CC := Lib.hid cc
        have CV := Lib.hid cv
        clear cc cv hok
        go_wp2_with (first
          | ((with_reducible refine tloadL imgType TA ?_ ?_); focus rfl)
          | (go_at_call 10; (with_reducible refine (CC.out _ K1).mono ?_); rintro _ W2 ⟨A4, n4, c4, us, rfl, hc4, R4, hus, B⟩; (replace BB := bon BB B; replace a0 := cell_below B a0); replace TA := TA.on B; have J2 := Lib.hid (JH.out.on B); clear B; have x4 := (XBox.made W2 (.slice A4 n4 c4) 29).1; have B := box_below W2 #[.slice A4 n4 c4] 29; (replace BB := bon BB B; replace a0 := cell_below B a0); replace TA := TA.on B; have J3 := Lib.hid (J2.out.on B); clear B K1 JH J2)
          | (go_at_call 20; (with_reducible refine (CV.out _).mono ?_); rintro _ W3 ⟨rfl, B⟩; (replace BB := bon BB B; replace a0 := cell_below B a0); have J4 := Lib.hid (J3.out.on B); clear B J3))
        go_roundw
        case rel => exact ⟨j + 1, by omega, by go_num, a0, J4.out, BB⟩
        case measure => simp [intOf]; omega
    · obtain rfl : j = n := by omega
      go_wp2_with (go_at_call 9; (with_reducible refine (CX.out _).mono ?_); rintro _ W9 ⟨rfl, B⟩; replace BB := bon BB B)
      go_ret
      exact ⟨rfl, BB⟩

end Go.Proofs.Ytcjlgfadjedgbaa
