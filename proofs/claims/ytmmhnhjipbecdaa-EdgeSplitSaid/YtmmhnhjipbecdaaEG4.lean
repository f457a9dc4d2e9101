/- triangle, the example; the walks of EdgeFunctions, EdgeShared. -/
import Derived.Test.YtmmhnhjipbecdaaEG3
namespace Go.Proofs.Ytmmhnhjipbecdaa
set_option linter.unusedSimpArgs false
open Go.RowKit Go.Sort Go.ChangeShapes Go.WideShapes
set_option linter.unusedVariables false

set_option maxRecDepth 100000 in
set_option maxHeartbeats 2000000 in
theorem triangle_b (ax ay bx by' cx cy : Int) (w : World) : Calls Try.prog 26 #[.agg #[.int .i64 ax, .int .i64 ay], .agg #[.int .i64 bx, .int .i64 by'], .agg #[.int .i64 cx, .int .i64 cy]] w fun e w' => e = .returned (.agg #[.int .i64 ax, .int .i64 ay, .int .i64 0, .int .i64 0, .slice none 0 0, .int .i64 bx, .int .i64 by', .int .i64 0, .int .i64 0, .slice none 0 0, .int .i64 cx, .int .i64 cy, .int .i64 0, .int .i64 0, .slice none 0 0, .int .i64 0, .bool false]) ∧ Below w.heap.size w w' := by
  have BB := box_below w #[.int .i64 ax, .int .i64 ay] 22
  have X0 := EBox.made w #[.int .i64 ax, .int .i64 ay] 22
  have hsz1 : (w.alloc (.cells #[.int .i64 ax, .int .i64 ay] 22)).heap.size = w.heap.size + 1 := by simp
  have X1 := EBox.made (w.alloc (.cells #[.int .i64 ax, .int .i64 ay] 22)) #[.int .i64 bx, .int .i64 by'] 22
  rw [hsz1] at X1
  replace X0 := X0.on (Nat.succ_pos _) (box_below (w.alloc (.cells #[.int .i64 ax, .int .i64 ay] 22)) #[.int .i64 bx, .int .i64 by'] 22)
  replace BB := bon BB (box_below (w.alloc (.cells #[.int .i64 ax, .int .i64 ay] 22)) #[.int .i64 bx, .int .i64 by'] 22)
  clear hsz1
  have hsz2 : ((w.alloc (.cells #[.int .i64 ax, .int .i64 ay] 22)).alloc (.cells #[.int .i64 bx, .int .i64 by'] 22)).heap.size = w.heap.size + 2 := by simp
  have X2 := EBox.made ((w.alloc (.cells #[.int .i64 ax, .int .i64 ay] 22)).alloc (.cells #[.int .i64 bx, .int .i64 by'] 22)) #[.int .i64 cx, .int .i64 cy] 22
  rw [hsz2] at X2
  replace X0 := X0.on (Nat.succ_pos _) (box_below ((w.alloc (.cells #[.int .i64 ax, .int .i64 ay] 22)).alloc (.cells #[.int .i64 bx, .int .i64 by'] 22)) #[.int .i64 cx, .int .i64 cy] 22)
  replace X1 := X1.on (Nat.succ_pos _) (box_below ((w.alloc (.cells #[.int .i64 ax, .int .i64 ay] 22)).alloc (.cells #[.int .i64 bx, .int .i64 by'] 22)) #[.int .i64 cx, .int .i64 cy] 22)
  replace BB := bon BB (box_below ((w.alloc (.cells #[.int .i64 ax, .int .i64 ay] 22)).alloc (.cells #[.int .i64 bx, .int .i64 by'] 22)) #[.int .i64 cx, .int .i64 cy] 22)
  clear hsz2
  have c0 := X0.cell (i := 0) rfl
  have c1 := X0.cell (i := 1) rfl
  have d0 := X1.cell (i := 0) rfl
  have d1 := X1.cell (i := 1) rfl
  have e0 := X2.cell (i := 0) rfl
  have e1 := X2.cell (i := 1) rfl
  clear X0 X1 X2
  have B4 := bon BB (box_below (((w.alloc (.cells #[.int .i64 ax, .int .i64 ay] 22)).alloc (.cells #[.int .i64 bx, .int .i64 by'] 22)).alloc (.cells #[.int .i64 cx, .int .i64 cy] 22)) #[.int .i64 ax, .int .i64 ay, .int .i64 0, .int .i64 0, .slice none 0 0, .int .i64 bx, .int .i64 by', .int .i64 0, .int .i64 0, .slice none 0 0, .int .i64 cx, .int .i64 cy, .int .i64 0, .int .i64 0, .slice none 0 0, .int .i64 0, .bool false] 34)
  go_enter Try.func26, Try.ntmps26
  go_wp2
  exact bodyPost_ret (by simp [results, Try.results26, go_sem]) rfl ⟨rfl, B4⟩

theorem guard3 : Try.prog.eqGuardType Try.prog.depth 35 = false := by kernel_rfl

theorem cellsI : Try.prog.cellsOf 3 = 1 := by kernel_rfl

theorem infoI : ∃ i, Try.prog.info? 3 = some i := Option.isSome_iff_exists.1 (by kernel_rfl)

theorem eq3 (a b c d e f : Int) (w : World) : (Op.equalIn 10000 35 (.agg #[.int .i64 a, .int .i64 b, .int .i64 c]) (.agg #[.int .i64 d, .int .i64 e, .int .i64 f])).run Try.prog w = .ok (a == d && b == e && c == f) w := by
  obtain ⟨i, hi⟩ := infoI
  rw [run_equalIn_array w 9999 _ _ Try.underlying35 hi]
  by_cases h1 : a = d <;> by_cases h2 : b = e <;> by_cases h3 : c = f <;> simp [show List.range 3 = [0, 1, 2] from rfl, Op.eqItems, go_sem, cellsI, h1, h2, h3]

theorem tl_at (ax ay bx by' : Int) (v : Bool) (h : tlv ax ay bx by' = v) (w : World) : Calls Try.prog 14 #[.int .i64 ax, .int .i64 ay, .int .i64 bx, .int .i64 by'] w fun e w' => e = .returned (.bool v) ∧ Below w.heap.size w w' := h ▸ tl_b ax ay bx by' w

theorem acc_at (ax ay bx by' px py : Int) (v : Bool) (h : acc ax ay bx by' px py = v) (w : World) : Calls Try.prog 11 #[.int .i64 ax, .int .i64 ay, .int .i64 bx, .int .i64 by', .int .i64 px, .int .i64 py] w fun e w' => e = .returned (.bool v) ∧ Below w.heap.size w w' := h ▸ acc_b ax ay bx by' px py w

theorem efn_at (ax ay bx by' px py v : Int) (h : efn ax ay bx by' px py = v) (w : World) : Calls Try.prog 10 #[.int .i64 ax, .int .i64 ay, .int .i64 bx, .int .i64 by', .int .i64 px, .int .i64 py] w fun e w' => e = .returned (.int .i64 v) ∧ Below w.heap.size w w' := h ▸ efn_b ax ay bx by' px py w

theorem limited_at (x v : Int) (h : onv x = v) (w : World) : Calls Try.prog 12 #[.int .i64 x] w fun e w' => e = .returned (.int .i64 v) ∧ Below w.heap.size w w' := h ▸ limited_b x w

theorem wts_at (a b c : SV) (p : Int) (f : Bool) (px py : Int) (v : Value) (h : wres (wtv a b c px py) = v) (w : World) : Calls Try.prog 18 #[.agg #[.int .i64 a.x, .int .i64 a.y, .int .i64 a.z, .int .i64 a.q, .slice a.A a.n a.c, .int .i64 b.x, .int .i64 b.y, .int .i64 b.z, .int .i64 b.q, .slice b.A b.n b.c, .int .i64 c.x, .int .i64 c.y, .int .i64 c.z, .int .i64 c.q, .slice c.A c.n c.c, .int .i64 p, .bool f], .int .i64 px, .int .i64 py] w fun e w' => e = .returned v ∧ Below w.heap.size w w' := h ▸ wts_b a b c p f px py w

theorem cov_at (a b c : SV) (p : Int) (f : Bool) (px py : Int) (v : Bool) (h : cov a b c px py = v) (w : World) : Calls Try.prog 24 #[.agg #[.int .i64 a.x, .int .i64 a.y, .int .i64 a.z, .int .i64 a.q, .slice a.A a.n a.c, .int .i64 b.x, .int .i64 b.y, .int .i64 b.z, .int .i64 b.q, .slice b.A b.n b.c, .int .i64 c.x, .int .i64 c.y, .int .i64 c.z, .int .i64 c.q, .slice c.A c.n c.c, .int .i64 p, .bool f], .int .i64 px, .int .i64 py] w fun e w' => e = .returned (.bool v) ∧ Below w.heap.size w w' := h ▸ cov_b a b c p f px py w

set_option maxRecDepth 100000 in
set_option maxHeartbeats 2000000 in
theorem example34_b (w : World) : Calls Try.prog 13 #[] w fun e w' => e = .returned (.bool true) ∧ Below w.heap.size w w' := by
  have BB := Below.refl w.heap.size w
  have CT := Lib.hid (fun W => triangle_b 0 0 256 0 0 256 W)
  have CW := Lib.hid (fun W => wts_at ⟨0, 0, 0, 0, none, 0, 0⟩ ⟨256, 0, 0, 0, none, 0, 0⟩ ⟨0, 256, 0, 0, none, 0, 0⟩ 0 false 0 0 (.tuple #[.agg #[.int .i64 65536, .int .i64 0, .int .i64 0], .int .i64 65536]) (by rw [show wtv ⟨0, 0, 0, 0, none, 0, 0⟩ ⟨256, 0, 0, 0, none, 0, 0⟩ ⟨0, 256, 0, 0, none, 0, 0⟩ 0 0 = (65536, 0, 0) by decide]; rfl) W)
  have CV := Lib.hid (fun W => valid_at ⟨0, 0, 0, 0, none, 0, 0⟩ ⟨256, 0, 0, 0, none, 0, 0⟩ ⟨0, 256, 0, 0, none, 0, 0⟩ 0 false true (by decide) W)
  have CC := Lib.hid (fun W => cov_at ⟨0, 0, 0, 0, none, 0, 0⟩ ⟨256, 0, 0, 0, none, 0, 0⟩ ⟨0, 256, 0, 0, none, 0, 0⟩ 0 false 64 64 true (by decide) W)
  have CL := Lib.hid (fun W => tl_at 0 0 256 0 true (by decide) W)
  have CA := Lib.hid (fun W => acc_at 0 0 256 0 128 0 true (by decide) W)
  have EQ := fun W => eq3 65536 0 0 65536 0 0 W
  simp only [beq_self_eq_true, Bool.and_self] at EQ
  have GU := guard3
  go_enter Try.func13, Try.ntmps13
  go_wp2_with (first
    | (go_at_call 26; (refine (CT.out _).mono ?_); rintro _ W1 ⟨rfl, B⟩; replace BB := bon BB (bon B (box_below W1 #[.int .i64 0, .int .i64 0, .int .i64 0, .int .i64 0, .slice none 0 0, .int .i64 256, .int .i64 0, .int .i64 0, .int .i64 0, .slice none 0 0, .int .i64 0, .int .i64 256, .int .i64 0, .int .i64 0, .slice none 0 0, .int .i64 0, .bool false] 34)); have r0 := range_cut (EBox.made W1 #[.int .i64 0, .int .i64 0, .int .i64 0, .int .i64 0, .slice none 0 0, .int .i64 256, .int .i64 0, .int .i64 0, .int .i64 0, .slice none 0 0, .int .i64 0, .int .i64 256, .int .i64 0, .int .i64 0, .slice none 0 0, .int .i64 0, .bool false] 34).1 0 17; simp only [List.drop_zero, List.take_succ_cons, List.take_zero, Nat.zero_add] at r0; clear B)
    | ((with_reducible refine eload17L rk_tr r0 ?_ ?_); focus rfl)
    | (refine wpList_ungd rfl ?_; (with_reducible refine eload17L rk_tr r0 ?_ ?_); focus rfl)
    | (go_at_call 18; (refine (CW.out _).mono ?_); rintro _ W2 ⟨rfl, B⟩; replace BB := bon BB (bon B (box_below W2 #[.int .i64 65536, .int .i64 0, .int .i64 0] 35)); replace r0 := rangeAt_on r0 (bon B (box_below W2 #[.int .i64 65536, .int .i64 0, .int .i64 0] 35)); have g0 := box_cell W2 #[.int .i64 65536, .int .i64 0, .int .i64 0] 35 0 _ rfl; have g1 := box_cell W2 #[.int .i64 65536, .int .i64 0, .int .i64 0] 35 1 _ rfl; have g2 := box_cell W2 #[.int .i64 65536, .int .i64 0, .int .i64 0] 35 2 _ rfl; clear B)
    | (go_at_call 14; (refine (CL.out _).mono ?_); rintro _ W3 ⟨rfl, B⟩; replace BB := bon BB B; replace r0 := rangeAt_on r0 B; replace g0 := cell_below B g0; replace g1 := cell_below B g1; replace g2 := cell_below B g2; clear B)
    | (go_at_call 11; (refine (CA.out _).mono ?_); rintro _ W4 ⟨rfl, B⟩; replace BB := bon BB B; replace r0 := rangeAt_on r0 B; replace g0 := cell_below B g0; replace g1 := cell_below B g1; replace g2 := cell_below B g2; clear B)
    | (go_at_call 22; (refine (CV.out _).mono ?_); rintro _ W5 ⟨rfl, B⟩; replace BB := bon BB B; replace r0 := rangeAt_on r0 B; replace g0 := cell_below B g0; replace g1 := cell_below B g1; replace g2 := cell_below B g2; clear B)
    | (go_at_call 24; (refine (CC.out _).mono ?_); rintro _ W6 ⟨rfl, B⟩; replace BB := bon BB B; replace r0 := rangeAt_on r0 B; replace g0 := cell_below B g0; replace g1 := cell_below B g1; replace g2 := cell_below B g2; clear B))
  go_ret
  exact ⟨rfl, BB⟩

end Go.Proofs.Ytmmhnhjipbecdaa
