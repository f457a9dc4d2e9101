/- What Weights of package edge, triangle return; the example. -/
import Derived.Test.YtmmhnhjipbecdaaEG2
import Derived.Test.YtmmhnhjipbecdaaTreeC
import Derived.ChangeKeysEq
namespace Go.Proofs.Ytmmhnhjipbecdaa
set_option linter.unusedSimpArgs false
open Go.RowKit Go.Sort Go.ChangeShapes Go.WideShapes
set_option linter.unusedVariables false

theorem rk_a3 : RowK Try.prog 35 3 := ⟨⟨_, Try.underlying35, rfl⟩, by kernel_rfl⟩

/-- The weights. -/
def wtv (a b c : SV) (px py : Int) : Int × Int × Int := if trv a b c = true then (efn b.x b.y c.x c.y px py, efn c.x c.y a.x a.y px py, efn a.x a.y b.x b.y px py) else (0, 0, 0)

theorem wtv_no {a b c : SV} (px py : Int) (h : trv a b c = false) : wtv a b c px py = (0, 0, 0) := by unfold wtv; rw [h]; rfl

theorem wtv_yes {a b c : SV} (px py : Int) (h : trv a b c = true) : wtv a b c px py = (efn b.x b.y c.x c.y px py, efn c.x c.y a.x a.y px py, efn a.x a.y b.x b.y px py) := by unfold wtv; rw [if_pos h]

def wres (t : Int × Int × Int) : Value := .tuple #[.agg #[.int .i64 t.1, .int .i64 t.2.1, .int .i64 t.2.2], .int .i64 (t.1 + t.2.1 + t.2.2)]

set_option maxRecDepth 100000 in
set_option maxHeartbeats 1000000 in
theorem wts_no (a b c : SV) (p : Int) (f : Bool) (px py : Int) (h : trv a b c = false) (w : World) : Calls Try.prog 18 #[.agg #[.int .i64 a.x, .int .i64 a.y, .int .i64 a.z, .int .i64 a.q, .slice a.A a.n a.c, .int .i64 b.x, .int .i64 b.y, .int .i64 b.z, .int .i64 b.q, .slice b.A b.n b.c, .int .i64 c.x, .int .i64 c.y, .int .i64 c.z, .int .i64 c.q, .slice c.A c.n c.c, .int .i64 p, .bool f], .int .i64 px, .int .i64 py] w fun e w' => e = .returned (wres (0, 0, 0)) ∧ Below w.heap.size w w' := by
  have BB := box_below w #[.int .i64 a.x, .int .i64 a.y, .int .i64 a.z, .int .i64 a.q, .slice a.A a.n a.c, .int .i64 b.x, .int .i64 b.y, .int .i64 b.z, .int .i64 b.q, .slice b.A b.n b.c, .int .i64 c.x, .int .i64 c.y, .int .i64 c.z, .int .i64 c.q, .slice c.A c.n c.c, .int .i64 p, .bool f] 34
  have X0 := EBox.made w #[.int .i64 a.x, .int .i64 a.y, .int .i64 a.z, .int .i64 a.q, .slice a.A a.n a.c, .int .i64 b.x, .int .i64 b.y, .int .i64 b.z, .int .i64 b.q, .slice b.A b.n b.c, .int .i64 c.x, .int .i64 c.y, .int .i64 c.z, .int .i64 c.q, .slice c.A c.n c.c, .int .i64 p, .bool f] 34
  have hsz1 : (w.alloc (.cells #[.int .i64 a.x, .int .i64 a.y, .int .i64 a.z, .int .i64 a.q, .slice a.A a.n a.c, .int .i64 b.x, .int .i64 b.y, .int .i64 b.z, .int .i64 b.q, .slice b.A b.n b.c, .int .i64 c.x, .int .i64 c.y, .int .i64 c.z, .int .i64 c.q, .slice c.A c.n c.c, .int .i64 p, .bool f] 34)).heap.size = w.heap.size + 1 := by simp
  have X1 := EBox.made (w.alloc (.cells #[.int .i64 a.x, .int .i64 a.y, .int .i64 a.z, .int .i64 a.q, .slice a.A a.n a.c, .int .i64 b.x, .int .i64 b.y, .int .i64 b.z, .int .i64 b.q, .slice b.A b.n b.c, .int .i64 c.x, .int .i64 c.y, .int .i64 c.z, .int .i64 c.q, .slice c.A c.n c.c, .int .i64 p, .bool f] 34)) #[.int .i64 0, .int .i64 0, .int .i64 0] 35
  rw [hsz1] at X1
  replace X0 := X0.on (Nat.succ_pos _) (box_below (w.alloc (.cells #[.int .i64 a.x, .int .i64 a.y, .int .i64 a.z, .int .i64 a.q, .slice a.A a.n a.c, .int .i64 b.x, .int .i64 b.y, .int .i64 b.z, .int .i64 b.q, .slice b.A b.n b.c, .int .i64 c.x, .int .i64 c.y, .int .i64 c.z, .int .i64 c.q, .slice c.A c.n c.c, .int .i64 p, .bool f] 34)) #[.int .i64 0, .int .i64 0, .int .i64 0] 35)
  replace BB := bon BB (box_below (w.alloc (.cells #[.int .i64 a.x, .int .i64 a.y, .int .i64 a.z, .int .i64 a.q, .slice a.A a.n a.c, .int .i64 b.x, .int .i64 b.y, .int .i64 b.z, .int .i64 b.q, .slice b.A b.n b.c, .int .i64 c.x, .int .i64 c.y, .int .i64 c.z, .int .i64 c.q, .slice c.A c.n c.c, .int .i64 p, .bool f] 34)) #[.int .i64 0, .int .i64 0, .int .i64 0] 35)
  clear hsz1
  have Etr := range_cut X0.1 0 17
  have Esv_0 := range_cut X0.1 0 5
  have Esv_1 := range_cut X0.1 5 5
  have Esv_2 := range_cut X0.1 10 5
  simp only [List.drop_succ_cons, List.drop_zero, List.take_succ_cons, List.take_zero, Nat.zero_add] at Etr Esv_0 Esv_1 Esv_2
  clear X0
  have Xa3_r := X1
  clear X1
  have CV := Lib.hid (fun W => valid_at a b c p f false h W)
  clear h
  go_enter Try.func18, Try.ntmps18
  go_wp2_with (first
    | ((with_reducible refine eload17L rk_tr Etr ?_ ?_); focus rfl)
    | (go_at_call 22; refine (CV.out _).mono ?_; rintro _ W1 ⟨rfl, B⟩; (replace BB := bon BB B; replace Etr := rangeAt_on Etr B; replace Esv_0 := rangeAt_on Esv_0 B; replace Esv_1 := rangeAt_on Esv_1 B; replace Esv_2 := rangeAt_on Esv_2 B; replace Xa3_r := EBox.on Xa3_r (Nat.succ_pos _) B); clear B; have g0 := Xa3_r.cell (i := 0) rfl; have g1 := Xa3_r.cell (i := 1) rfl; have g2 := Xa3_r.cell (i := 2) rfl; have z0 := Xa3_r.2))
  have X1 := EBox.upd (i := 2) (v := .int .i64 0) (EBox.upd (i := 1) (v := .int .i64 0) (EBox.upd (i := 0) (v := .int .i64 0) Xa3_r (by decide)) (by decide)) (by decide)
  have r0 := X1.cell (i := 0) rfl
  have r1 := X1.cell (i := 1) rfl
  have r2 := X1.cell (i := 2) rfl
  exact bodyPost_ret (v := wres (0, 0, 0)) (by simp [wres, results, Try.results18, go_sem, r0, r1, r2]) rfl ⟨rfl, ((BB.setCell (by simp) _).setCell (by simp) _).setCell (by simp) _⟩

set_option maxRecDepth 100000 in
set_option maxHeartbeats 4000000 in
theorem wts_yes (a b c : SV) (p : Int) (f : Bool) (px py : Int) (h : trv a b c = true) (w : World) : Calls Try.prog 18 #[.agg #[.int .i64 a.x, .int .i64 a.y, .int .i64 a.z, .int .i64 a.q, .slice a.A a.n a.c, .int .i64 b.x, .int .i64 b.y, .int .i64 b.z, .int .i64 b.q, .slice b.A b.n b.c, .int .i64 c.x, .int .i64 c.y, .int .i64 c.z, .int .i64 c.q, .slice c.A c.n c.c, .int .i64 p, .bool f], .int .i64 px, .int .i64 py] w fun e w' => e = .returned (wres (efn b.x b.y c.x c.y px py, efn c.x c.y a.x a.y px py, efn a.x a.y b.x b.y px py)) ∧ Below w.heap.size w w' := by
  have BB := box_below w #[.int .i64 a.x, .int .i64 a.y, .int .i64 a.z, .int .i64 a.q, .slice a.A a.n a.c, .int .i64 b.x, .int .i64 b.y, .int .i64 b.z, .int .i64 b.q, .slice b.A b.n b.c, .int .i64 c.x, .int .i64 c.y, .int .i64 c.z, .int .i64 c.q, .slice c.A c.n c.c, .int .i64 p, .bool f] 34
  have X0 := EBox.made w #[.int .i64 a.x, .int .i64 a.y, .int .i64 a.z, .int .i64 a.q, .slice a.A a.n a.c, .int .i64 b.x, .int .i64 b.y, .int .i64 b.z, .int .i64 b.q, .slice b.A b.n b.c, .int .i64 c.x, .int .i64 c.y, .int .i64 c.z, .int .i64 c.q, .slice c.A c.n c.c, .int .i64 p, .bool f] 34
  have hsz1 : (w.alloc (.cells #[.int .i64 a.x, .int .i64 a.y, .int .i64 a.z, .int .i64 a.q, .slice a.A a.n a.c, .int .i64 b.x, .int .i64 b.y, .int .i64 b.z, .int .i64 b.q, .slice b.A b.n b.c, .int .i64 c.x, .int .i64 c.y, .int .i64 c.z, .int .i64 c.q, .slice c.A c.n c.c, .int .i64 p, .bool f] 34)).heap.size = w.heap.size + 1 := by simp
  have X1 := EBox.made (w.alloc (.cells #[.int .i64 a.x, .int .i64 a.y, .int .i64 a.z, .int .i64 a.q, .slice a.A a.n a.c, .int .i64 b.x, .int .i64 b.y, .int .i64 b.z, .int .i64 b.q, .slice b.A b.n b.c, .int .i64 c.x, .int .i64 c.y, .int .i64 c.z, .int .i64 c.q, .slice c.A c.n c.c, .int .i64 p, .bool f] 34)) #[.int .i64 0, .int .i64 0, .int .i64 0] 35
  rw [hsz1] at X1
  replace X0 := X0.on (Nat.succ_pos _) (box_below (w.alloc (.cells #[.int .i64 a.x, .int .i64 a.y, .int .i64 a.z, .int .i64 a.q, .slice a.A a.n a.c, .int .i64 b.x, .int .i64 b.y, .int .i64 b.z, .int .i64 b.q, .slice b.A b.n b.c, .int .i64 c.x, .int .i64 c.y, .int .i64 c.z, .int .i64 c.q, .slice c.A c.n c.c, .int .i64 p, .bool f] 34)) #[.int .i64 0, .int .i64 0, .int .i64 0] 35)
  replace BB := bon BB (box_below (w.alloc (.cells #[.int .i64 a.x, .int .i64 a.y, .int .i64 a.z, .int .i64 a.q, .slice a.A a.n a.c, .int .i64 b.x, .int .i64 b.y, .int .i64 b.z, .int .i64 b.q, .slice b.A b.n b.c, .int .i64 c.x, .int .i64 c.y, .int .i64 c.z, .int .i64 c.q, .slice c.A c.n c.c, .int .i64 p, .bool f] 34)) #[.int .i64 0, .int .i64 0, .int .i64 0] 35)
  clear hsz1
  have Etr := range_cut X0.1 0 17
  have Esv_0 := range_cut X0.1 0 5
  have Esv_1 := range_cut X0.1 5 5
  have Esv_2 := range_cut X0.1 10 5
  simp only [List.drop_succ_cons, List.drop_zero, List.take_succ_cons, List.take_zero, Nat.zero_add] at Etr Esv_0 Esv_1 Esv_2
  clear X0
  have Xa3_r := X1
  clear X1
  have CV := Lib.hid (fun W => valid_at a b c p f true h W)
  have C0 := fun W => efn_b b.x b.y c.x c.y px py W
  have C1 := fun W => efn_b c.x c.y a.x a.y px py W
  have C2 := fun W => efn_b a.x a.y b.x b.y px py W
  have q0 := efn_bd b.x b.y c.x c.y px py
  have q1 := efn_bd c.x c.y a.x a.y px py
  have q2 := efn_bd a.x a.y b.x b.y px py
  obtain ⟨w0, hw0⟩ : ∃ x, efn b.x b.y c.x c.y px py = x := ⟨_, rfl⟩
  obtain ⟨w1, hw1⟩ : ∃ x, efn c.x c.y a.x a.y px py = x := ⟨_, rfl⟩
  obtain ⟨w2, hw2⟩ : ∃ x, efn a.x a.y b.x b.y px py = x := ⟨_, rfl⟩
  rw [hw0] at C0 q0 ⊢
  rw [hw1] at C1 q1 ⊢
  rw [hw2] at C2 q2 ⊢
  have D0 := Lib.hid C0
  have D1 := Lib.hid C1
  have D2 := Lib.hid C2
  clear h C0 C1 C2 hw0 hw1 hw2
  go_enter Try.func18, Try.ntmps18
  go_wp2_with (first
    | ((with_reducible refine eload17L rk_tr Etr ?_ ?_); focus rfl)
    | (first | (go_at_call 22; refine (CV.out _).mono ?_; rintro _ _ ⟨rfl, B⟩; replace BB := bon BB B; replace Etr := rangeAt_on Etr B; replace Esv_0 := rangeAt_on Esv_0 B; replace Esv_1 := rangeAt_on Esv_1 B; replace Esv_2 := rangeAt_on Esv_2 B; replace Xa3_r := EBox.on Xa3_r (Nat.succ_pos _) B)))
  have L0 := Lib.hid Esv_0
  have L1 := Lib.hid Esv_1
  have L2 := Lib.hid Esv_2
  have LR := Lib.hid Xa3_r
  clear Etr Esv_0 Esv_1 Esv_2 CV Xa3_r
  rename World => W1
  go_loopw [16] (fun i wr => ∃ (k : Nat) (x0 x1 x2 : Int), k ≤ 3 ∧ i = .int .i64 k ∧ Below W1.heap.size W1 wr ∧ EBox wr W1.heap.size [.int .i64 x0, .int .i64 x1, .int .i64 x2] ∧ (0 < k → x0 = w0) ∧ (1 < k → x1 = w1) ∧ (2 < k → x2 = w2)) (fun i _ => 3 - (intOf i).toNat)
  case atStart => exact ⟨0, 0, 0, 0, Nat.zero_le _, rfl, box_below _ _ _, EBox.made _ _ _, by omega, by omega, by omega⟩
  case round =>
    obtain ⟨k, x0, x1, x2, hk, rfl, B1, X8, h0, h1, h2⟩ := hrel
    rename World => wr
    have lr : w.heap.size + 1 < W1.heap.size := LR.out.lt (Nat.succ_pos _)
    rcases (show k = 0 ∨ k = 1 ∨ k = 2 ∨ k = 3 by omega) with rfl | rfl | rfl | rfl
    · have BX := Lib.hid BB
      clear BB h0 h1 h2
      have BB := B1
      have iw1 : IntKind.i64.wrap 1 = 1 := rfl
      have iw2 : IntKind.i64.wrap 2 = 2 := rfl
      have iw3 : IntKind.i64.wrap 3 = 3 := rfl
      have iw4 : IntKind.i64.wrap 4 = 4 := rfl
      have it1 : (1 : Int).tmod 3 = 1 := rfl
      have it2 : (2 : Int).tmod 3 = 2 := rfl
      have it3 : (3 : Int).tmod 3 = 0 := rfl
      have it4 : (4 : Int).tmod 3 = 1 := rfl
      have Esv_0 : wr.rangeAt w.heap.size 5 [.int .i64 b.x, .int .i64 b.y, .int .i64 b.z, .int .i64 b.q, .slice b.A b.n b.c] := rangeAt_below L1.out (by omega) B1
      have Esv_1 : wr.rangeAt w.heap.size 10 [.int .i64 c.x, .int .i64 c.y, .int .i64 c.z, .int .i64 c.q, .slice c.A c.n c.c] := rangeAt_below L2.out (by omega) B1
      clear B1
      go_wp2_with fail
      refine wp_region_tree (.read 0 (.read 1 (.read 2 (.read 3 (.read 4 (.read 5 (.read 6 (.read 7 (.read 8 (.read 9 (.read 10 (.read 11 (.fork2 12 (.fork1 13 (.fork1 14 (.fork1 15 .nil))) 13 (.fork1 12 (.fork1 14 (.fork1 15 .nil)))))))))))))))) (by kernel_rfl) (by kernel_rfl) ?_
      intro U0 B0
      refine tree_read rfl ?_
      (first | ((try simp only [List.getElem_toArray, List.getElem_cons_succ, List.getElem_cons_zero]); go_big_quiet_want; refine quiet_eload _ _ rfl rk_sv rfl (fun W hW => rangeAt_on Esv_0 (below_regrown' hW)) rfl ?_; go_simp; go_big_quiet_on) | ((try simp only [List.getElem_toArray, List.getElem_cons_succ, List.getElem_cons_zero]); go_big_quiet_want; refine quiet_eload _ _ rfl rk_sv rfl (fun W hW => rangeAt_on Esv_1 (below_regrown' hW)) rfl ?_; go_simp; go_big_quiet_on) | go_big_quiet_step (fail) | quiet_step (fail))
      refine wpQuiet_nil ?_
      refine tree_read rfl ?_
      (first | ((try simp only [List.getElem_toArray, List.getElem_cons_succ, List.getElem_cons_zero]); go_big_quiet_want; refine quiet_eload _ _ rfl rk_sv rfl (fun W hW => rangeAt_on Esv_0 (below_regrown' hW)) rfl ?_; go_simp; go_big_quiet_on) | ((try simp only [List.getElem_toArray, List.getElem_cons_succ, List.getElem_cons_zero]); go_big_quiet_want; refine quiet_eload _ _ rfl rk_sv rfl (fun W hW => rangeAt_on Esv_1 (below_regrown' hW)) rfl ?_; go_simp; go_big_quiet_on) | go_big_quiet_step (fail) | quiet_step (fail))
      refine wpQuiet_nil ?_
      refine tree_read rfl ?_
      (first | ((try simp only [List.getElem_toArray, List.getElem_cons_succ, List.getElem_cons_zero]); go_big_quiet_want; refine quiet_eload _ _ rfl rk_sv rfl (fun W hW => rangeAt_on Esv_0 (below_regrown' hW)) rfl ?_; go_simp; go_big_quiet_on) | ((try simp only [List.getElem_toArray, List.getElem_cons_succ, List.getElem_cons_zero]); go_big_quiet_want; refine quiet_eload _ _ rfl rk_sv rfl (fun W hW => rangeAt_on Esv_1 (below_regrown' hW)) rfl ?_; go_simp; go_big_quiet_on) | go_big_quiet_step (fail) | quiet_step (fail))
      refine wpQuiet_nil ?_
      refine tree_read rfl ?_
      (first | ((try simp only [List.getElem_toArray, List.getElem_cons_succ, List.getElem_cons_zero]); go_big_quiet_want; refine quiet_eload _ _ rfl rk_sv rfl (fun W hW => rangeAt_on Esv_0 (below_regrown' hW)) rfl ?_; go_simp; go_big_quiet_on) | ((try simp only [List.getElem_toArray, List.getElem_cons_succ, List.getElem_cons_zero]); go_big_quiet_want; refine quiet_eload _ _ rfl rk_sv rfl (fun W hW => rangeAt_on Esv_1 (below_regrown' hW)) rfl ?_; go_simp; go_big_quiet_on) | go_big_quiet_step (fail) | quiet_step (fail))
      refine wpQuiet_nil ?_
      refine tree_read rfl ?_
      (first | ((try simp only [List.getElem_toArray, List.getElem_cons_succ, List.getElem_cons_zero]); go_big_quiet_want; refine quiet_eload _ _ rfl rk_sv rfl (fun W hW => rangeAt_on Esv_0 (below_regrown' hW)) rfl ?_; go_simp; go_big_quiet_on) | ((try simp only [List.getElem_toArray, List.getElem_cons_succ, List.getElem_cons_zero]); go_big_quiet_want; refine quiet_eload _ _ rfl rk_sv rfl (fun W hW => rangeAt_on Esv_1 (below_regrown' hW)) rfl ?_; go_simp; go_big_quiet_on) | go_big_quiet_step (fail) | quiet_step (fail))
      refine wpQuiet_nil ?_
      refine tree_read rfl ?_
      (first | ((try simp only [List.getElem_toArray, List.getElem_cons_succ, List.getElem_cons_zero]); go_big_quiet_want; refine quiet_eload _ _ rfl rk_sv rfl (fun W hW => rangeAt_on Esv_0 (below_regrown' hW)) rfl ?_; go_simp; go_big_quiet_on) | ((try simp only [List.getElem_toArray, List.getElem_cons_succ, List.getElem_cons_zero]); go_big_quiet_want; refine quiet_eload _ _ rfl rk_sv rfl (fun W hW => rangeAt_on Esv_1 (below_regrown' hW)) rfl ?_; go_simp; go_big_quiet_on) | go_big_quiet_step (fail) | quiet_step (fail))
      refine wpQuiet_nil ?_
      refine tree_read rfl ?_
      (first | ((try simp only [List.getElem_toArray, List.getElem_cons_succ, List.getElem_cons_zero]); go_big_quiet_want; refine quiet_eload _ _ rfl rk_sv rfl (fun W hW => rangeAt_on Esv_0 (below_regrown' hW)) rfl ?_; go_simp; go_big_quiet_on) | ((try simp only [List.getElem_toArray, List.getElem_cons_succ, List.getElem_cons_zero]); go_big_quiet_want; refine quiet_eload _ _ rfl rk_sv rfl (fun W hW => rangeAt_on Esv_1 (below_regrown' hW)) rfl ?_; go_simp; go_big_quiet_on) | go_big_quiet_step (fail) | quiet_step (fail))
      refine wpQuiet_nil ?_
      refine tree_read rfl ?_
      (first | ((try simp only [List.getElem_toArray, List.getElem_cons_succ, List.getElem_cons_zero]); go_big_quiet_want; refine quiet_eload _ _ rfl rk_sv rfl (fun W hW => rangeAt_on Esv_0 (below_regrown' hW)) rfl ?_; go_simp; go_big_quiet_on) | ((try simp only [List.getElem_toArray, List.getElem_cons_succ, List.getElem_cons_zero]); go_big_quiet_want; refine quiet_eload _ _ rfl rk_sv rfl (fun W hW => rangeAt_on Esv_1 (below_regrown' hW)) rfl ?_; go_simp; go_big_quiet_on) | go_big_quiet_step (fail) | quiet_step (fail))
      refine wpQuiet_nil ?_
      refine tree_read rfl ?_
      (first | ((try simp only [List.getElem_toArray, List.getElem_cons_succ, List.getElem_cons_zero]); go_big_quiet_want; refine quiet_eload _ _ rfl rk_sv rfl (fun W hW => rangeAt_on Esv_0 (below_regrown' hW)) rfl ?_; go_simp; go_big_quiet_on) | ((try simp only [List.getElem_toArray, List.getElem_cons_succ, List.getElem_cons_zero]); go_big_quiet_want; refine quiet_eload _ _ rfl rk_sv rfl (fun W hW => rangeAt_on Esv_1 (below_regrown' hW)) rfl ?_; go_simp; go_big_quiet_on) | go_big_quiet_step (fail) | quiet_step (fail))
      refine wpQuiet_nil ?_
      refine tree_read rfl ?_
      (first | ((try simp only [List.getElem_toArray, List.getElem_cons_succ, List.getElem_cons_zero]); go_big_quiet_want; refine quiet_eload _ _ rfl rk_sv rfl (fun W hW => rangeAt_on Esv_0 (below_regrown' hW)) rfl ?_; go_simp; go_big_quiet_on) | ((try simp only [List.getElem_toArray, List.getElem_cons_succ, List.getElem_cons_zero]); go_big_quiet_want; refine quiet_eload _ _ rfl rk_sv rfl (fun W hW => rangeAt_on Esv_1 (below_regrown' hW)) rfl ?_; go_simp; go_big_quiet_on) | go_big_quiet_step (fail) | quiet_step (fail))
      refine wpQuiet_nil ?_
      refine tree_read rfl ?_
      (first | ((try simp only [List.getElem_toArray, List.getElem_cons_succ, List.getElem_cons_zero]); go_big_quiet_want; refine quiet_eload _ _ rfl rk_sv rfl (fun W hW => rangeAt_on Esv_0 (below_regrown' hW)) rfl ?_; go_simp; go_big_quiet_on) | ((try simp only [List.getElem_toArray, List.getElem_cons_succ, List.getElem_cons_zero]); go_big_quiet_want; refine quiet_eload _ _ rfl rk_sv rfl (fun W hW => rangeAt_on Esv_1 (below_regrown' hW)) rfl ?_; go_simp; go_big_quiet_on) | go_big_quiet_step (fail) | quiet_step (fail))
      refine wpQuiet_nil ?_
      refine tree_read rfl ?_
      (first | ((try simp only [List.getElem_toArray, List.getElem_cons_succ, List.getElem_cons_zero]); go_big_quiet_want; refine quiet_eload _ _ rfl rk_sv rfl (fun W hW => rangeAt_on Esv_0 (below_regrown' hW)) rfl ?_; go_simp; go_big_quiet_on) | ((try simp only [List.getElem_toArray, List.getElem_cons_succ, List.getElem_cons_zero]); go_big_quiet_want; refine quiet_eload _ _ rfl rk_sv rfl (fun W hW => rangeAt_on Esv_1 (below_regrown' hW)) rfl ?_; go_simp; go_big_quiet_on) | go_big_quiet_step (fail) | quiet_step (fail))
      refine wpQuiet_nil ?_
      replace Esv_0 := rangeAt_on Esv_0 B0
      replace Esv_1 := rangeAt_on Esv_1 B0
      replace X8 := X8.on (Nat.succ_pos _) B0
      have lX8 := X8.lt (Nat.succ_pos _)
      refine tree_alloc2 rfl rfl zero_sv zero_sv (Nat.succ_pos _) (Nat.succ_pos _) (by decide) (fun V h => Ahead.of h) B0 ?_
      intro b1 b2 V0 hne lb1 lb2 B9 Xb1 Xb2
      have mb1 := Nat.le_trans B0.size lb1
      have mb2 := Nat.le_trans B0.size lb2
      have LL : ∀ a : Addr, a.block < U0.heap.size → V0.cell? a = U0.cell? a := fun a h => B9.cell h
      replace X8 := X8.on (Nat.succ_pos _) B9
      have BT := bon B0 B9
      clear B9 B0
      refine tree_one rfl ?_
      refine esetL (vs := [.int .i64 b.x, .int .i64 b.y, .int .i64 b.z, .int .i64 b.q, .slice b.A b.n b.c]) rk_sv rfl rfl Xb1 rfl rfl (by simp [Value.oneCell']) ?_
      intro V1 Yb1 B9 hc9 hf9
      replace LL : ∀ a : Addr, a.block < U0.heap.size → V1.cell? a = U0.cell? a := fun a h => (hc9 a (by omega)).trans (LL a h)
      replace BT := BT.trans (B9.mono mb1)
      replace Xb2 := Xb2.keep (by omega) hc9 hf9
      replace X8 := X8.keep (by omega) hc9 hf9
      replace Xb1 := Yb1
      clear B9 hc9 hf9
      refine ⟨Ahead.of BT, ?_⟩
      refine tree_one rfl ?_
      refine esetL (vs := [.int .i64 c.x, .int .i64 c.y, .int .i64 c.z, .int .i64 c.q, .slice c.A c.n c.c]) rk_sv rfl rfl Xb2 rfl rfl (by simp [Value.oneCell']) ?_
      intro V2 Yb2 B9 hc9 hf9
      replace LL : ∀ a : Addr, a.block < U0.heap.size → V2.cell? a = U0.cell? a := fun a h => (hc9 a (by omega)).trans (LL a h)
      replace BT := BT.trans (B9.mono mb2)
      replace Xb1 := Xb1.keep (by omega) hc9 hf9
      replace X8 := X8.keep (by omega) hc9 hf9
      replace Xb2 := Yb2
      clear B9 hc9 hf9
      refine ⟨Ahead.of BT, ?_⟩
      refine tree_nil ?_
      replace BB := bon BB BT
      replace Esv_0 := (fun j v hv => (LL _ (block_lt_of_cell (Esv_0 j v hv))).trans (Esv_0 j v hv) : World.rangeAt V2 _ _ _)
      replace Esv_1 := (fun j v hv => (LL _ (block_lt_of_cell (Esv_1 j v hv))).trans (Esv_1 j v hv) : World.rangeAt V2 _ _ _)
      clear LL BT mb1 mb2 lb1 lb2 lX8
      have d0 := Xb1.cell (i := 0) rfl
      have d1 := Xb1.cell (i := 1) rfl
      have e0 := Xb2.cell (i := 0) rfl
      have e1 := Xb2.cell (i := 1) rfl
      clear Xb1 Xb2 Esv_0 Esv_1 hne
      go_wp2_with (go_at_call 10; (with_reducible refine (D0.out _).mono ?_); rintro _ W5 ⟨rfl, B⟩; replace X8 := X8.on (Nat.succ_pos _) B; replace BB := bon BB B; clear d0 d1 e0 e1 B; have d0 := X8.cell (i := 0) rfl; have z0 := X8.2 0)
      go_roundw
      case rel => exact ⟨1, w0, x1, x2, by omega, by go_num, BB.setCell (Nat.le_refl _) _, EBox.upd X8 (by simp), fun _ => rfl, by omega, by omega⟩
      case measure => simp [intOf]
    · obtain rfl := h0 (by omega)
      have BX := Lib.hid BB
      clear BB h0 h1 h2
      have BB := B1
      have iw1 : IntKind.i64.wrap 1 = 1 := rfl
      have iw2 : IntKind.i64.wrap 2 = 2 := rfl
      have iw3 : IntKind.i64.wrap 3 = 3 := rfl
      have iw4 : IntKind.i64.wrap 4 = 4 := rfl
      have it1 : (1 : Int).tmod 3 = 1 := rfl
      have it2 : (2 : Int).tmod 3 = 2 := rfl
      have it3 : (3 : Int).tmod 3 = 0 := rfl
      have it4 : (4 : Int).tmod 3 = 1 := rfl
      have Esv_0 : wr.rangeAt w.heap.size 10 [.int .i64 c.x, .int .i64 c.y, .int .i64 c.z, .int .i64 c.q, .slice c.A c.n c.c] := rangeAt_below L2.out (by omega) B1
      have Esv_1 : wr.rangeAt w.heap.size 0 [.int .i64 a.x, .int .i64 a.y, .int .i64 a.z, .int .i64 a.q, .slice a.A a.n a.c] := rangeAt_below L0.out (by omega) B1
      clear B1
      go_wp2_with fail
      refine wp_region_tree (.read 0 (.read 1 (.read 2 (.read 3 (.read 4 (.read 5 (.read 6 (.read 7 (.read 8 (.read 9 (.read 10 (.read 11 (.fork2 12 (.fork1 13 (.fork1 14 (.fork1 15 .nil))) 13 (.fork1 12 (.fork1 14 (.fork1 15 .nil)))))))))))))))) (by kernel_rfl) (by kernel_rfl) ?_
      intro U0 B0
      refine tree_read rfl ?_
      (first | ((try simp only [List.getElem_toArray, List.getElem_cons_succ, List.getElem_cons_zero]); go_big_quiet_want; refine quiet_eload _ _ rfl rk_sv rfl (fun W hW => rangeAt_on Esv_0 (below_regrown' hW)) rfl ?_; go_simp; go_big_quiet_on) | ((try simp only [List.getElem_toArray, List.getElem_cons_succ, List.getElem_cons_zero]); go_big_quiet_want; refine quiet_eload _ _ rfl rk_sv rfl (fun W hW => rangeAt_on Esv_1 (below_regrown' hW)) rfl ?_; go_simp; go_big_quiet_on) | go_big_quiet_step (fail) | quiet_step (fail))
      refine wpQuiet_nil ?_
      refine tree_read rfl ?_
      (first | ((try simp only [List.getElem_toArray, List.getElem_cons_succ, List.getElem_cons_zero]); go_big_quiet_want; refine quiet_eload _ _ rfl rk_sv rfl (fun W hW => rangeAt_on Esv_0 (below_regrown' hW)) rfl ?_; go_simp; go_big_quiet_on) | ((try simp only [List.getElem_toArray, List.getElem_cons_succ, List.getElem_cons_zero]); go_big_quiet_want; refine quiet_eload _ _ rfl rk_sv rfl (fun W hW => rangeAt_on Esv_1 (below_regrown' hW)) rfl ?_; go_simp; go_big_quiet_on) | go_big_quiet_step (fail) | quiet_step (fail))
      refine wpQuiet_nil ?_
      refine tree_read rfl ?_
      (first | ((try simp only [List.getElem_toArray, List.getElem_cons_succ, List.getElem_cons_zero]); go_big_quiet_want; refine quiet_eload _ _ rfl rk_sv rfl (fun W hW => rangeAt_on Esv_0 (below_regrown' hW)) rfl ?_; go_simp; go_big_quiet_on) | ((try simp only [List.getElem_toArray, List.getElem_cons_succ, List.getElem_cons_zero]); go_big_quiet_want; refine quiet_eload _ _ rfl rk_sv rfl (fun W hW => rangeAt_on Esv_1 (below_regrown' hW)) rfl ?_; go_simp; go_big_quiet_on) | go_big_quiet_step (fail) | quiet_step (fail))
      refine wpQuiet_nil ?_
      refine tree_read rfl ?_
      (first | ((try simp only [List.getElem_toArray, List.getElem_cons_succ, List.getElem_cons_zero]); go_big_quiet_want; refine quiet_eload _ _ rfl rk_sv rfl (fun W hW => rangeAt_on Esv_0 (below_regrown' hW)) rfl ?_; go_simp; go_big_quiet_on) | ((try simp only [List.getElem_toArray, List.getElem_cons_succ, List.getElem_cons_zero]); go_big_quiet_want; refine quiet_eload _ _ rfl rk_sv rfl (fun W hW => rangeAt_on Esv_1 (below_regrown' hW)) rfl ?_; go_simp; go_big_quiet_on) | go_big_quiet_step (fail) | quiet_step (fail))
      refine wpQuiet_nil ?_
      refine tree_read rfl ?_
      (first | ((try simp only [List.getElem_toArray, List.getElem_cons_succ, List.getElem_cons_zero]); go_big_quiet_want; refine quiet_eload _ _ rfl rk_sv rfl (fun W hW => rangeAt_on Esv_0 (below_regrown' hW)) rfl ?_; go_simp; go_big_quiet_on) | ((try simp only [List.getElem_toArray, List.getElem_cons_succ, List.getElem_cons_zero]); go_big_quiet_want; refine quiet_eload _ _ rfl rk_sv rfl (fun W hW => rangeAt_on Esv_1 (below_regrown' hW)) rfl ?_; go_simp; go_big_quiet_on) | go_big_quiet_step (fail) | quiet_step (fail))
      refine wpQuiet_nil ?_
      refine tree_read rfl ?_
      (first | ((try simp only [List.getElem_toArray, List.getElem_cons_succ, List.getElem_cons_zero]); go_big_quiet_want; refine quiet_eload _ _ rfl rk_sv rfl (fun W hW => rangeAt_on Esv_0 (below_regrown' hW)) rfl ?_; go_simp; go_big_quiet_on) | ((try simp only [List.getElem_toArray, List.getElem_cons_succ, List.getElem_cons_zero]); go_big_quiet_want; refine quiet_eload _ _ rfl rk_sv rfl (fun W hW => rangeAt_on Esv_1 (below_regrown' hW)) rfl ?_; go_simp; go_big_quiet_on) | go_big_quiet_step (fail) | quiet_step (fail))
      refine wpQuiet_nil ?_
      refine tree_read rfl ?_
      (first | ((try simp only [List.getElem_toArray, List.getElem_cons_succ, List.getElem_cons_zero]); go_big_quiet_want; refine quiet_eload _ _ rfl rk_sv rfl (fun W hW => rangeAt_on Esv_0 (below_regrown' hW)) rfl ?_; go_simp; go_big_quiet_on) | ((try simp only [List.getElem_toArray, List.getElem_cons_succ, List.getElem_cons_zero]); go_big_quiet_want; refine quiet_eload _ _ rfl rk_sv rfl (fun W hW => rangeAt_on Esv_1 (below_regrown' hW)) rfl ?_; go_simp; go_big_quiet_on) | go_big_quiet_step (fail) | quiet_step (fail))
      refine wpQuiet_nil ?_
      refine tree_read rfl ?_
      (first | ((try simp only [List.getElem_toArray, List.getElem_cons_succ, List.getElem_cons_zero]); go_big_quiet_want; refine quiet_eload _ _ rfl rk_sv rfl (fun W hW => rangeAt_on Esv_0 (below_regrown' hW)) rfl ?_; go_simp; go_big_quiet_on) | ((try simp only [List.getElem_toArray, List.getElem_cons_succ, List.getElem_cons_zero]); go_big_quiet_want; refine quiet_eload _ _ rfl rk_sv rfl (fun W hW => rangeAt_on Esv_1 (below_regrown' hW)) rfl ?_; go_simp; go_big_quiet_on) | go_big_quiet_step (fail) | quiet_step (fail))
      refine wpQuiet_nil ?_
      refine tree_read rfl ?_
      (first | ((try simp only [List.getElem_toArray, List.getElem_cons_succ, List.getElem_cons_zero]); go_big_quiet_want; refine quiet_eload _ _ rfl rk_sv rfl (fun W hW => rangeAt_on Esv_0 (below_regrown' hW)) rfl ?_; go_simp; go_big_quiet_on) | ((try simp only [List.getElem_toArray, List.getElem_cons_succ, List.getElem_cons_zero]); go_big_quiet_want; refine quiet_eload _ _ rfl rk_sv rfl (fun W hW => rangeAt_on Esv_1 (below_regrown' hW)) rfl ?_; go_simp; go_big_quiet_on) | go_big_quiet_step (fail) | quiet_step (fail))
      refine wpQuiet_nil ?_
      refine tree_read rfl ?_
      (first | ((try simp only [List.getElem_toArray, List.getElem_cons_succ, List.getElem_cons_zero]); go_big_quiet_want; refine quiet_eload _ _ rfl rk_sv rfl (fun W hW => rangeAt_on Esv_0 (below_regrown' hW)) rfl ?_; go_simp; go_big_quiet_on) | ((try simp only [List.getElem_toArray, List.getElem_cons_succ, List.getElem_cons_zero]); go_big_quiet_want; refine quiet_eload _ _ rfl rk_sv rfl (fun W hW => rangeAt_on Esv_1 (below_regrown' hW)) rfl ?_; go_simp; go_big_quiet_on) | go_big_quiet_step (fail) | quiet_step (fail))
      refine wpQuiet_nil ?_
      refine tree_read rfl ?_
      (first | ((try simp only [List.getElem_toArray, List.getElem_cons_succ, List.getElem_cons_zero]); go_big_quiet_want; refine quiet_eload _ _ rfl rk_sv rfl (fun W hW => rangeAt_on Esv_0 (below_regrown' hW)) rfl ?_; go_simp; go_big_quiet_on) | ((try simp only [List.getElem_toArray, List.getElem_cons_succ, List.getElem_cons_zero]); go_big_quiet_want; refine quiet_eload _ _ rfl rk_sv rfl (fun W hW => rangeAt_on Esv_1 (below_regrown' hW)) rfl ?_; go_simp; go_big_quiet_on) | go_big_quiet_step (fail) | quiet_step (fail))
      refine wpQuiet_nil ?_
      refine tree_read rfl ?_
      (first | ((try simp only [List.getElem_toArray, List.getElem_cons_succ, List.getElem_cons_zero]); go_big_quiet_want; refine quiet_eload _ _ rfl rk_sv rfl (fun W hW => rangeAt_on Esv_0 (below_regrown' hW)) rfl ?_; go_simp; go_big_quiet_on) | ((try simp only [List.getElem_toArray, List.getElem_cons_succ, List.getElem_cons_zero]); go_big_quiet_want; refine quiet_eload _ _ rfl rk_sv rfl (fun W hW => rangeAt_on Esv_1 (below_regrown' hW)) rfl ?_; go_simp; go_big_quiet_on) | go_big_quiet_step (fail) | quiet_step (fail))
      refine wpQuiet_nil ?_
      replace Esv_0 := rangeAt_on Esv_0 B0
      replace Esv_1 := rangeAt_on Esv_1 B0
      replace X8 := X8.on (Nat.succ_pos _) B0
      have lX8 := X8.lt (Nat.succ_pos _)
      refine tree_alloc2 rfl rfl zero_sv zero_sv (Nat.succ_pos _) (Nat.succ_pos _) (by decide) (fun V h => Ahead.of h) B0 ?_
      intro b1 b2 V0 hne lb1 lb2 B9 Xb1 Xb2
      have mb1 := Nat.le_trans B0.size lb1
      have mb2 := Nat.le_trans B0.size lb2
      have LL : ∀ a : Addr, a.block < U0.heap.size → V0.cell? a = U0.cell? a := fun a h => B9.cell h
      replace X8 := X8.on (Nat.succ_pos _) B9
      have BT := bon B0 B9
      clear B9 B0
      refine tree_one rfl ?_
      refine esetL (vs := [.int .i64 c.x, .int .i64 c.y, .int .i64 c.z, .int .i64 c.q, .slice c.A c.n c.c]) rk_sv rfl rfl Xb1 rfl rfl (by simp [Value.oneCell']) ?_
      intro V1 Yb1 B9 hc9 hf9
      replace LL : ∀ a : Addr, a.block < U0.heap.size → V1.cell? a = U0.cell? a := fun a h => (hc9 a (by omega)).trans (LL a h)
      replace BT := BT.trans (B9.mono mb1)
      replace Xb2 := Xb2.keep (by omega) hc9 hf9
      replace X8 := X8.keep (by omega) hc9 hf9
      replace Xb1 := Yb1
      clear B9 hc9 hf9
      refine ⟨Ahead.of BT, ?_⟩
      refine tree_one rfl ?_
      refine esetL (vs := [.int .i64 a.x, .int .i64 a.y, .int .i64 a.z, .int .i64 a.q, .slice a.A a.n a.c]) rk_sv rfl rfl Xb2 rfl rfl (by simp [Value.oneCell']) ?_
      intro V2 Yb2 B9 hc9 hf9
      replace LL : ∀ a : Addr, a.block < U0.heap.size → V2.cell? a = U0.cell? a := fun a h => (hc9 a (by omega)).trans (LL a h)
      replace BT := BT.trans (B9.mono mb2)
      replace Xb1 := Xb1.keep (by omega) hc9 hf9
      replace X8 := X8.keep (by omega) hc9 hf9
      replace Xb2 := Yb2
      clear B9 hc9 hf9
      refine ⟨Ahead.of BT, ?_⟩
      refine tree_nil ?_
      replace BB := bon BB BT
      replace Esv_0 := (fun j v hv => (LL _ (block_lt_of_cell (Esv_0 j v hv))).trans (Esv_0 j v hv) : World.rangeAt V2 _ _ _)
      replace Esv_1 := (fun j v hv => (LL _ (block_lt_of_cell (Esv_1 j v hv))).trans (Esv_1 j v hv) : World.rangeAt V2 _ _ _)
      clear LL BT mb1 mb2 lb1 lb2 lX8
      have d0 := Xb1.cell (i := 0) rfl
      have d1 := Xb1.cell (i := 1) rfl
      have e0 := Xb2.cell (i := 0) rfl
      have e1 := Xb2.cell (i := 1) rfl
      clear Xb1 Xb2 Esv_0 Esv_1 hne
      go_wp2_with (go_at_call 10; (with_reducible refine (D1.out _).mono ?_); rintro _ W5 ⟨rfl, B⟩; replace X8 := X8.on (Nat.succ_pos _) B; replace BB := bon BB B; clear d0 d1 e0 e1 B; have d0 := X8.cell (i := 1) rfl; have z0 := X8.2 1)
      go_roundw
      case rel => exact ⟨2, x0, w1, x2, by omega, by go_num, BB.setCell (Nat.le_refl _) _, EBox.upd X8 (by simp), fun _ => rfl, fun _ => rfl, by omega⟩
      case measure => simp [intOf]
    · obtain rfl := h0 (by omega)
      obtain rfl := h1 (by omega)
      have BX := Lib.hid BB
      clear BB h0 h1 h2
      have BB := B1
      have iw1 : IntKind.i64.wrap 1 = 1 := rfl
      have iw2 : IntKind.i64.wrap 2 = 2 := rfl
      have iw3 : IntKind.i64.wrap 3 = 3 := rfl
      have iw4 : IntKind.i64.wrap 4 = 4 := rfl
      have it1 : (1 : Int).tmod 3 = 1 := rfl
      have it2 : (2 : Int).tmod 3 = 2 := rfl
      have it3 : (3 : Int).tmod 3 = 0 := rfl
      have it4 : (4 : Int).tmod 3 = 1 := rfl
      have Esv_0 : wr.rangeAt w.heap.size 0 [.int .i64 a.x, .int .i64 a.y, .int .i64 a.z, .int .i64 a.q, .slice a.A a.n a.c] := rangeAt_below L0.out (by omega) B1
      have Esv_1 : wr.rangeAt w.heap.size 5 [.int .i64 b.x, .int .i64 b.y, .int .i64 b.z, .int .i64 b.q, .slice b.A b.n b.c] := rangeAt_below L1.out (by omega) B1
      clear B1
      go_wp2_with fail
      refine wp_region_tree (.read 0 (.read 1 (.read 2 (.read 3 (.read 4 (.read 5 (.read 6 (.read 7 (.read 8 (.read 9 (.read 10 (.read 11 (.fork2 12 (.fork1 13 (.fork1 14 (.fork1 15 .nil))) 13 (.fork1 12 (.fork1 14 (.fork1 15 .nil)))))))))))))))) (by kernel_rfl) (by kernel_rfl) ?_
      intro U0 B0
      refine tree_read rfl ?_
      (first | ((try simp only [List.getElem_toArray, List.getElem_cons_succ, List.getElem_cons_zero]); go_big_quiet_want; refine quiet_eload _ _ rfl rk_sv rfl (fun W hW => rangeAt_on Esv_0 (below_regrown' hW)) rfl ?_; go_simp; go_big_quiet_on) | ((try simp only [List.getElem_toArray, List.getElem_cons_succ, List.getElem_cons_zero]); go_big_quiet_want; refine quiet_eload _ _ rfl rk_sv rfl (fun W hW => rangeAt_on Esv_1 (below_regrown' hW)) rfl ?_; go_simp; go_big_quiet_on) | go_big_quiet_step (fail) | quiet_step (fail))
      refine wpQuiet_nil ?_
      refine tree_read rfl ?_
      (first | ((try simp only [List.getElem_toArray, List.getElem_cons_succ, List.getElem_cons_zero]); go_big_quiet_want; refine quiet_eload _ _ rfl rk_sv rfl (fun W hW => rangeAt_on Esv_0 (below_regrown' hW)) rfl ?_; go_simp; go_big_quiet_on) | ((try simp only [List.getElem_toArray, List.getElem_cons_succ, List.getElem_cons_zero]); go_big_quiet_want; refine quiet_eload _ _ rfl rk_sv rfl (fun W hW => rangeAt_on Esv_1 (below_regrown' hW)) rfl ?_; go_simp; go_big_quiet_on) | go_big_quiet_step (fail) | quiet_step (fail))
      refine wpQuiet_nil ?_
      refine tree_read rfl ?_
      (first | ((try simp only [List.getElem_toArray, List.getElem_cons_succ, List.getElem_cons_zero]); go_big_quiet_want; refine quiet_eload _ _ rfl rk_sv rfl (fun W hW => rangeAt_on Esv_0 (below_regrown' hW)) rfl ?_; go_simp; go_big_quiet_on) | ((try simp only [List.getElem_toArray, List.getElem_cons_succ, List.getElem_cons_zero]); go_big_quiet_want; refine quiet_eload _ _ rfl rk_sv rfl (fun W hW => rangeAt_on Esv_1 (below_regrown' hW)) rfl ?_; go_simp; go_big_quiet_on) | go_big_quiet_step (fail) | quiet_step (fail))
      refine wpQuiet_nil ?_
      refine tree_read rfl ?_
      (first | ((try simp only [List.getElem_toArray, List.getElem_cons_succ, List.getElem_cons_zero]); go_big_quiet_want; refine quiet_eload _ _ rfl rk_sv rfl (fun W hW => rangeAt_on Esv_0 (below_regrown' hW)) rfl ?_; go_simp; go_big_quiet_on) | ((try simp only [List.getElem_toArray, List.getElem_cons_succ, List.getElem_cons_zero]); go_big_quiet_want; refine quiet_eload _ _ rfl rk_sv rfl (fun W hW => rangeAt_on Esv_1 (below_regrown' hW)) rfl ?_; go_simp; go_big_quiet_on) | go_big_quiet_step (fail) | quiet_step (fail))
      refine wpQuiet_nil ?_
      refine tree_read rfl ?_
      (first | ((try simp only [List.getElem_toArray, List.getElem_cons_succ, List.getElem_cons_zero]); go_big_quiet_want; refine quiet_eload _ _ rfl rk_sv rfl (fun W hW => rangeAt_on Esv_0 (below_regrown' hW)) rfl ?_; go_simp; go_big_quiet_on) | ((try simp only [List.getElem_toArray, List.getElem_cons_succ, List.getElem_cons_zero]); go_big_quiet_want; refine quiet_eload _ _ rfl rk_sv rfl (fun W hW => rangeAt_on Esv_1 (below_regrown' hW)) rfl ?_; go_simp; go_big_quiet_on) | go_big_quiet_step (fail) | quiet_step (fail))
      refine wpQuiet_nil ?_
      refine tree_read rfl ?_
      (first | ((try simp only [List.getElem_toArray, List.getElem_cons_succ, List.getElem_cons_zero]); go_big_quiet_want; refine quiet_eload _ _ rfl rk_sv rfl (fun W hW => rangeAt_on Esv_0 (below_regrown' hW)) rfl ?_; go_simp; go_big_quiet_on) | ((try simp only [List.getElem_toArray, List.getElem_cons_succ, List.getElem_cons_zero]); go_big_quiet_want; refine quiet_eload _ _ rfl rk_sv rfl (fun W hW => rangeAt_on Esv_1 (below_regrown' hW)) rfl ?_; go_simp; go_big_quiet_on) | go_big_quiet_step (fail) | quiet_step (fail))
      refine wpQuiet_nil ?_
      refine tree_read rfl ?_
      (first | ((try simp only [List.getElem_toArray, List.getElem_cons_succ, List.getElem_cons_zero]); go_big_quiet_want; refine quiet_eload _ _ rfl rk_sv rfl (fun W hW => rangeAt_on Esv_0 (below_regrown' hW)) rfl ?_; go_simp; go_big_quiet_on) | ((try simp only [List.getElem_toArray, List.getElem_cons_succ, List.getElem_cons_zero]); go_big_quiet_want; refine quiet_eload _ _ rfl rk_sv rfl (fun W hW => rangeAt_on Esv_1 (below_regrown' hW)) rfl ?_; go_simp; go_big_quiet_on) | go_big_quiet_step (fail) | quiet_step (fail))
      refine wpQuiet_nil ?_
      refine tree_read rfl ?_
      (first | ((try simp only [List.getElem_toArray, List.getElem_cons_succ, List.getElem_cons_zero]); go_big_quiet_want; refine quiet_eload _ _ rfl rk_sv rfl (fun W hW => rangeAt_on Esv_0 (below_regrown' hW)) rfl ?_; go_simp; go_big_quiet_on) | ((try simp only [List.getElem_toArray, List.getElem_cons_succ, List.getElem_cons_zero]); go_big_quiet_want; refine quiet_eload _ _ rfl rk_sv rfl (fun W hW => rangeAt_on Esv_1 (below_regrown' hW)) rfl ?_; go_simp; go_big_quiet_on) | go_big_quiet_step (fail) | quiet_step (fail))
      refine wpQuiet_nil ?_
      refine tree_read rfl ?_
      (first | ((try simp only [List.getElem_toArray, List.getElem_cons_succ, List.getElem_cons_zero]); go_big_quiet_want; refine quiet_eload _ _ rfl rk_sv rfl (fun W hW => rangeAt_on Esv_0 (below_regrown' hW)) rfl ?_; go_simp; go_big_quiet_on) | ((try simp only [List.getElem_toArray, List.getElem_cons_succ, List.getElem_cons_zero]); go_big_quiet_want; refine quiet_eload _ _ rfl rk_sv rfl (fun W hW => rangeAt_on Esv_1 (below_regrown' hW)) rfl ?_; go_simp; go_big_quiet_on) | go_big_quiet_step (fail) | quiet_step (fail))
      refine wpQuiet_nil ?_
      refine tree_read rfl ?_
      (first | ((try simp only [List.getElem_toArray, List.getElem_cons_succ, List.getElem_cons_zero]); go_big_quiet_want; refine quiet_eload _ _ rfl rk_sv rfl (fun W hW => rangeAt_on Esv_0 (below_regrown' hW)) rfl ?_; go_simp; go_big_quiet_on) | ((try simp only [List.getElem_toArray, List.getElem_cons_succ, List.getElem_cons_zero]); go_big_quiet_want; refine quiet_eload _ _ rfl rk_sv rfl (fun W hW => rangeAt_on Esv_1 (below_regrown' hW)) rfl ?_; go_simp; go_big_quiet_on) | go_big_quiet_step (fail) | quiet_step (fail))
      refine wpQuiet_nil ?_
      refine tree_read rfl ?_
      (first | ((try simp only [List.getElem_toArray, List.getElem_cons_succ, List.getElem_cons_zero]); go_big_quiet_want; refine quiet_eload _ _ rfl rk_sv rfl (fun W hW => rangeAt_on Esv_0 (below_regrown' hW)) rfl ?_; go_simp; go_big_quiet_on) | ((try simp only [List.getElem_toArray, List.getElem_cons_succ, List.getElem_cons_zero]); go_big_quiet_want; refine quiet_eload _ _ rfl rk_sv rfl (fun W hW => rangeAt_on Esv_1 (below_regrown' hW)) rfl ?_; go_simp; go_big_quiet_on) | go_big_quiet_step (fail) | quiet_step (fail))
      refine wpQuiet_nil ?_
      refine tree_read rfl ?_
      (first | ((try simp only [List.getElem_toArray, List.getElem_cons_succ, List.getElem_cons_zero]); go_big_quiet_want; refine quiet_eload _ _ rfl rk_sv rfl (fun W hW => rangeAt_on Esv_0 (below_regrown' hW)) rfl ?_; go_simp; go_big_quiet_on) | ((try simp only [List.getElem_toArray, List.getElem_cons_succ, List.getElem_cons_zero]); go_big_quiet_want; refine quiet_eload _ _ rfl rk_sv rfl (fun W hW => rangeAt_on Esv_1 (below_regrown' hW)) rfl ?_; go_simp; go_big_quiet_on) | go_big_quiet_step (fail) | quiet_step (fail))
      refine wpQuiet_nil ?_
      replace Esv_0 := rangeAt_on Esv_0 B0
      replace Esv_1 := rangeAt_on Esv_1 B0
      replace X8 := X8.on (Nat.succ_pos _) B0
      have lX8 := X8.lt (Nat.succ_pos _)
      refine tree_alloc2 rfl rfl zero_sv zero_sv (Nat.succ_pos _) (Nat.succ_pos _) (by decide) (fun V h => Ahead.of h) B0 ?_
      intro b1 b2 V0 hne lb1 lb2 B9 Xb1 Xb2
      have mb1 := Nat.le_trans B0.size lb1
      have mb2 := Nat.le_trans B0.size lb2
      have LL : ∀ a : Addr, a.block < U0.heap.size → V0.cell? a = U0.cell? a := fun a h => B9.cell h
      replace X8 := X8.on (Nat.succ_pos _) B9
      have BT := bon B0 B9
      clear B9 B0
      refine tree_one rfl ?_
      refine esetL (vs := [.int .i64 a.x, .int .i64 a.y, .int .i64 a.z, .int .i64 a.q, .slice a.A a.n a.c]) rk_sv rfl rfl Xb1 rfl rfl (by simp [Value.oneCell']) ?_
      intro V1 Yb1 B9 hc9 hf9
      replace LL : ∀ a : Addr, a.block < U0.heap.size → V1.cell? a = U0.cell? a := fun a h => (hc9 a (by omega)).trans (LL a h)
      replace BT := BT.trans (B9.mono mb1)
      replace Xb2 := Xb2.keep (by omega) hc9 hf9
      replace X8 := X8.keep (by omega) hc9 hf9
      replace Xb1 := Yb1
      clear B9 hc9 hf9
      refine ⟨Ahead.of BT, ?_⟩
      refine tree_one rfl ?_
      refine esetL (vs := [.int .i64 b.x, .int .i64 b.y, .int .i64 b.z, .int .i64 b.q, .slice b.A b.n b.c]) rk_sv rfl rfl Xb2 rfl rfl (by simp [Value.oneCell']) ?_
      intro V2 Yb2 B9 hc9 hf9
      replace LL : ∀ a : Addr, a.block < U0.heap.size → V2.cell? a = U0.cell? a := fun a h => (hc9 a (by omega)).trans (LL a h)
      replace BT := BT.trans (B9.mono mb2)
      replace Xb1 := Xb1.keep (by omega) hc9 hf9
      replace X8 := X8.keep (by omega) hc9 hf9
      replace Xb2 := Yb2
      clear B9 hc9 hf9
      refine ⟨Ahead.of BT, ?_⟩
      refine tree_nil ?_
      replace BB := bon BB BT
      replace Esv_0 := (fun j v hv => (LL _ (block_lt_of_cell (Esv_0 j v hv))).trans (Esv_0 j v hv) : World.rangeAt V2 _ _ _)
      replace Esv_1 := (fun j v hv => (LL _ (block_lt_of_cell (Esv_1 j v hv))).trans (Esv_1 j v hv) : World.rangeAt V2 _ _ _)
      clear LL BT mb1 mb2 lb1 lb2 lX8
      have d0 := Xb1.cell (i := 0) rfl
      have d1 := Xb1.cell (i := 1) rfl
      have e0 := Xb2.cell (i := 0) rfl
      have e1 := Xb2.cell (i := 1) rfl
      clear Xb1 Xb2 Esv_0 Esv_1 hne
      go_wp2_with (go_at_call 10; (with_reducible refine (D2.out _).mono ?_); rintro _ W5 ⟨rfl, B⟩; replace X8 := X8.on (Nat.succ_pos _) B; replace BB := bon BB B; clear d0 d1 e0 e1 B; have d0 := X8.cell (i := 2) rfl; have z0 := X8.2 2)
      go_roundw
      case rel => exact ⟨3, x0, x1, w2, by omega, by go_num, BB.setCell (Nat.le_refl _) _, EBox.upd X8 (by simp), fun _ => rfl, fun _ => rfl, fun _ => rfl⟩
      case measure => simp [intOf]
    · obtain rfl := h0 (by omega)
      obtain rfl := h1 (by omega)
      obtain rfl := h2 (by omega)
      have Xa3_r := LR.out.below lr B1
      have e0 := X8.cell (i := 0) rfl
      have e1 := X8.cell (i := 1) rfl
      have e2 := X8.cell (i := 2) rfl
      have Xa3_8 := X8
      replace BB := bon BB B1
      clear X8 B1 h0 h1 h2
      go_wp2_with fail
      have q8 : ∀ W : World, W.rangeAt W1.heap.size 0 [.int .i64 x0, .int .i64 x1, .int .i64 x2] → W.rangeAt W1.heap.size 0 [.int .i64 x0, .int .i64 x1, .int .i64 x2] := fun W h => h
      have S8 : wr.rangeAt W1.heap.size 0 [.int .i64 x0, .int .i64 x1, .int .i64 x2] := Xa3_8.1
      refine wp_region_treeC (fun W => W.rangeAt W1.heap.size 0 [.int .i64 x0, .int .i64 x1, .int .i64 x2]) (.read 0 (.read 1 (.read 2 (.read 3 (.read 4 (.read 5 (.read 6 (.read 7 (.read 8 (.fork1 9 (.read 10 .nil))))))))))) (by kernel_rfl) (by kernel_rfl) (fun W hB => rangeAt_on S8 hB) ?_
      intro U0 B0
      have j1 : IntKind.i64.wrap (x0 + x1) = x0 + x1 := IntWalk.i64_in _ (by omega)
      have j2 : wrap64 (x0 + x1) = x0 + x1 := by unfold wrap64; omega
      have j3 : IntKind.i64.wrap (x0 + x1 + x2) = x0 + x1 + x2 := IntWalk.i64_in _ (by omega)
      have j4 : wrap64 (x0 + x1 + x2) = x0 + x1 + x2 := by unfold wrap64; omega
      refine tree_read rfl ?_
      try simp only [List.getElem_toArray, List.getElem_cons_succ, List.getElem_cons_zero]
      (go_big_quiet_want; refine quiet_eload _ _ rfl rk_a3 rfl q8 rfl ?_; go_simp; go_big_quiet_on)
      refine wpQuiet_nil ?_
      refine tree_read rfl ?_
      try simp only [List.getElem_toArray, List.getElem_cons_succ, List.getElem_cons_zero]
      go_big_quiet_want
      refine quiet_val (.pointer (some ⟨W1.heap.size, 0, none⟩)) (fun W hW => by simp [execOp, go_sem]) ?_
      go_simp
      go_big_quiet_on
      refine wpQuiet_nil ?_
      refine tree_read rfl ?_
      try simp only [List.getElem_toArray, List.getElem_cons_succ, List.getElem_cons_zero]
      go_big_quiet_want
      refine quiet_val (.int .i64 x0) (fun W hW => by have h0 := q8 W hW 0 _ rfl; simp only [Nat.zero_add] at h0; simp [execOp, go_sem, h0]) ?_
      go_simp
      go_big_quiet_on
      refine wpQuiet_nil ?_
      refine tree_read rfl ?_
      try simp only [List.getElem_toArray, List.getElem_cons_succ, List.getElem_cons_zero]
      go_big_quiet_want
      refine quiet_val (.pointer (some ⟨W1.heap.size, 1, none⟩)) (fun W hW => by simp [execOp, go_sem]) ?_
      go_simp
      go_big_quiet_on
      refine wpQuiet_nil ?_
      refine tree_read rfl ?_
      try simp only [List.getElem_toArray, List.getElem_cons_succ, List.getElem_cons_zero]
      go_big_quiet_want
      refine quiet_val (.int .i64 x1) (fun W hW => by have h0 := q8 W hW 1 _ rfl; simp only [Nat.zero_add] at h0; simp [execOp, go_sem, h0]) ?_
      go_simp
      go_big_quiet_on
      refine wpQuiet_nil ?_
      refine tree_read rfl ?_
      try simp only [List.getElem_toArray, List.getElem_cons_succ, List.getElem_cons_zero]
      go_big_quiet_want
      refine quiet_val (.int .i64 (x0 + x1)) (fun W hW => by simp [execOp, go_sem, j1, j2]) ?_
      go_simp
      go_big_quiet_on
      refine wpQuiet_nil ?_
      refine tree_read rfl ?_
      try simp only [List.getElem_toArray, List.getElem_cons_succ, List.getElem_cons_zero]
      go_big_quiet_want
      refine quiet_val (.pointer (some ⟨W1.heap.size, 2, none⟩)) (fun W hW => by simp [execOp, go_sem]) ?_
      go_simp
      go_big_quiet_on
      refine wpQuiet_nil ?_
      refine tree_read rfl ?_
      try simp only [List.getElem_toArray, List.getElem_cons_succ, List.getElem_cons_zero]
      go_big_quiet_want
      refine quiet_val (.int .i64 x2) (fun W hW => by have h0 := q8 W hW 2 _ rfl; simp only [Nat.zero_add] at h0; simp [execOp, go_sem, h0]) ?_
      go_simp
      go_big_quiet_on
      refine wpQuiet_nil ?_
      refine tree_read rfl ?_
      try simp only [List.getElem_toArray, List.getElem_cons_succ, List.getElem_cons_zero]
      go_big_quiet_want
      refine quiet_val (.int .i64 (x0 + x1 + x2)) (fun W hW => by simp [execOp, go_sem, j1, j2, j3, j4]) ?_
      go_simp
      go_big_quiet_on
      refine wpQuiet_nil ?_
      replace Xa3_r := Xa3_r.on (Nat.succ_pos _) B0
      refine tree_one rfl ?_
      refine esetL (vs := [.int .i64 x0, .int .i64 x1, .int .i64 x2]) rk_a3 rfl rfl Xa3_r rfl rfl (by simp [Value.oneCell']) ?_
      intro V1 X1 B1 hc hf
      have BV := (bon BB B0).trans (B1.mono (by omega))
      refine ⟨fun j v hv => (hc _ (by simp only; omega)).trans (rangeAt_on S8 B0 j v hv), ?_⟩
      try go_simp
      refine tree_read rfl ?_
      try simp only [List.getElem_toArray, List.getElem_cons_succ, List.getElem_cons_zero]
      go_big_quiet_want
      refine quiet_val (.int .i64 (x0 + x1 + x2)) (fun W hW => by simp [execOp, go_sem]) ?_
      go_simp
      go_big_quiet_on
      refine wpQuiet_nil ?_
      refine tree_nil ?_
      go_wp2
      have r0 := X1.cell (i := 0) rfl
      have r1 := X1.cell (i := 1) rfl
      have r2 := X1.cell (i := 2) rfl
      refine bodyPost_ret (by simp [wres, results, Try.results18, go_sem, r0, r1, r2]) rfl ⟨rfl, BV⟩

theorem wts_b (a b c : SV) (p : Int) (f : Bool) (px py : Int) (w : World) : Calls Try.prog 18 #[.agg #[.int .i64 a.x, .int .i64 a.y, .int .i64 a.z, .int .i64 a.q, .slice a.A a.n a.c, .int .i64 b.x, .int .i64 b.y, .int .i64 b.z, .int .i64 b.q, .slice b.A b.n b.c, .int .i64 c.x, .int .i64 c.y, .int .i64 c.z, .int .i64 c.q, .slice c.A c.n c.c, .int .i64 p, .bool f], .int .i64 px, .int .i64 py] w fun e w' => e = .returned (wres (wtv a b c px py)) ∧ Below w.heap.size w w' := by
  cases h : trv a b c
  · rw [wtv_no px py h]; exact wts_no a b c p f px py h w
  · rw [wtv_yes px py h]; exact wts_yes a b c p f px py h w

end Go.Proofs.Ytmmhnhjipbecdaa
