/- The walks of CullArea, CullKeep, CullModes, CullExchange. -/
import Derived.Test.YtighmijnlngneaaCU2
namespace Go.Proofs.Ytighmijnlngneaa
set_option linter.unusedSimpArgs false
open Go.RowKit Go.Sort Go.ChangeShapes Go.WideShapes
set_option linter.unusedVariables false

theorem areav_swap (a b c : SV) : areav b a c = -areav a b c := by
  unfold areav inr3
  cases inr a <;> cases inr b <;> cases inr c <;> simp <;> grind

theorem areav_turn (a b c : SV) : areav b c a = areav a b c := by
  unfold areav inr3
  cases inr a <;> cases inr b <;> cases inr c <;> simp <;> grind

theorem area_at (a b c : SV) (n : Int) (h : areav a b c = n) (w : World) : Calls Try.prog 18 #[.agg #[.int .i64 a.x, .int .i64 a.y, .int .i64 a.z, .int .i64 a.q, .slice a.A a.n a.c, .int .i64 b.x, .int .i64 b.y, .int .i64 b.z, .int .i64 b.q, .slice b.A b.n b.c, .int .i64 c.x, .int .i64 c.y, .int .i64 c.z, .int .i64 c.q, .slice c.A c.n c.c]] w fun e w' => e = .returned (.int .i64 n) ∧ Below w.heap.size w w' := h ▸ area_b a b c w

theorem example33_b (w : World) : Calls Try.prog 15 #[] w fun e w' => e = .returned (.bool true) ∧ Below w.heap.size w w' := by
  have BB := Below.refl w.heap.size w
  have CA := Lib.hid (fun W => area_at ⟨0, 0, 0, 0, none, 0, 0⟩ ⟨256, 0, 0, 0, none, 0, 0⟩ ⟨0, 256, 0, 0, none, 0, 0⟩ 65536 rfl W)
  have CT : Hid (∀ W, Calls Try.prog 20 #[.int .i64 65536, .bool true] W fun e w' => e = .returned (.bool true) ∧ Below W.heap.size W w') := Lib.hid (fun W => front_b 65536 true W)
  have CF : Hid (∀ W, Calls Try.prog 20 #[.int .i64 65536, .bool false] W fun e w' => e = .returned (.bool false) ∧ Below W.heap.size W w') := Lib.hid (fun W => front_b 65536 false W)
  go_enter Try.func15, Try.ntmps15
  go_wp2_with (first
    | (go_at_call 18; (refine (CA.out _).mono ?_); rintro _ W1 ⟨rfl, B⟩; replace BB := bon (bon BB (box_below _ _ _)) B; clear B)
    | (go_at_call 20; first
        | ((with_reducible refine (CT.out _).mono ?_); rintro _ _ ⟨rfl, B⟩; replace BB := bon BB B; clear B)
        | ((with_reducible refine (CF.out _).mono ?_); rintro _ _ ⟨rfl, B⟩; replace BB := bon BB B; clear B)))
  go_ret
  exact ⟨rfl, BB⟩

set_option maxRecDepth 100000 in
theorem keep_walk (n m : Int) (cw : Bool) (w : World) : Calls Try.prog 5 #[.int .i64 n, .int .i64 m, .bool cw] w fun e w' => e = .returned (.bool true) ∧ Below w.heap.size w w' := by
  have BB := Below.refl w.heap.size w
  go_enter Try.func5, Try.ntmps5
  go_wp2_with (first | (go_at_call 20; refine (front_b n cw _).mono ?_; rintro _ _ ⟨rfl, B⟩; replace BB := bon BB B) | (go_at_call 21; refine (rfront_b n cw _).mono ?_; rintro _ _ ⟨rfl, B⟩; replace BB := bon BB B) | (go_at_call 22; refine (keep_b n m cw _).mono ?_; rintro _ _ ⟨rfl, B⟩; replace BB := bon BB B) | (go_at_call 23; refine (rkeep_b n m cw _).mono ?_; rintro _ _ ⟨rfl, B⟩; replace BB := bon BB B) | (go_at_call 15; refine (example33_b _).mono ?_; rintro _ _ ⟨rfl, B⟩; replace BB := bon BB B))
  go_ret
  exact ⟨rfl, BB⟩

theorem keep_at (n m : Int) (cw v : Bool) (h : keepv n m cw = v) (w : World) : Calls Try.prog 22 #[.int .i64 n, .int .i64 m, .bool cw] w fun e w' => e = .returned (.bool v) ∧ Below w.heap.size w w' := h ▸ keep_b n m cw w

theorem front_at (n : Int) (cw v : Bool) (h : frontv n cw = v) (w : World) : Calls Try.prog 20 #[.int .i64 n, .bool cw] w fun e w' => e = .returned (.bool v) ∧ Below w.heap.size w w' := h ▸ front_b n cw w

set_option maxRecDepth 100000 in
set_option maxHeartbeats 1000000 in
theorem modes_case (n : Int) (cw k1 k2 k3 f1 f2 : Bool) (h1 : Hid (keepv n 1 cw = k1)) (h2 : Hid (keepv n 2 cw = k2)) (h3 : Hid (keepv n 3 cw = k3)) (h4 : Hid (frontv n cw = f1)) (h5 : Hid (frontv n (!cw) = f2))
    (hz : (n = 0 ∧ k1 = false ∧ k2 = false ∧ k3 = false ∧ f1 = false) ∨ (n ≠ 0 ∧ k1 = true ∧ k2 = (!k3) ∧ f1 = (!f2))) (w : World) :
    Calls Try.prog 8 #[.int .i64 n, .bool cw] w fun e w' => e = .returned (.bool true) ∧ Below w.heap.size w w' := by
  have BB := Below.refl w.heap.size w
  have C1 := Lib.hid (fun W => keep_at n 1 cw _ h1.out W)
  have C2 := Lib.hid (fun W => keep_at n 2 cw _ h2.out W)
  have C3 := Lib.hid (fun W => keep_at n 3 cw _ h3.out W)
  have C4 := Lib.hid (fun W => front_at n cw _ h4.out W)
  have C5 := Lib.hid (fun W => front_at n (!cw) _ h5.out W)
  clear h1 h2 h3 h4 h5
  cases cw
  all_goals
    simp only [Bool.not_false, Bool.not_true] at C5
    rcases hz with ⟨rfl, rfl, rfl, rfl, rfl⟩ | ⟨h0, rfl, rfl, rfl⟩
    · go_enter Try.func8, Try.ntmps8
      go_wp2_with (first
        | (go_at_call 22; first
            | ((with_reducible refine (C1.out _).mono ?_); rintro _ _ ⟨rfl, B⟩; replace BB := bon BB B; clear B)
            | ((with_reducible refine (C2.out _).mono ?_); rintro _ _ ⟨rfl, B⟩; replace BB := bon BB B; clear B)
            | ((with_reducible refine (C3.out _).mono ?_); rintro _ _ ⟨rfl, B⟩; replace BB := bon BB B; clear B))
        | (go_at_call 20; first
            | ((with_reducible refine (C4.out _).mono ?_); rintro _ _ ⟨rfl, B⟩; replace BB := bon BB B; clear B)
            | ((with_reducible refine (C5.out _).mono ?_); rintro _ _ ⟨rfl, B⟩; replace BB := bon BB B; clear B))
        | (first | (go_at_call 15; refine (example33_b _).mono ?_; rintro _ _ ⟨rfl, B⟩; replace BB := bon BB B)))
      go_ret
      exact ⟨rfl, BB⟩
    · cases k3 <;> cases f2
      all_goals
        simp only [Bool.not_false, Bool.not_true] at C2 C4
        go_enter Try.func8, Try.ntmps8
        go_wp2_with (first
          | (go_at_call 22; first
              | ((with_reducible refine (C1.out _).mono ?_); rintro _ _ ⟨rfl, B⟩; replace BB := bon BB B; clear B)
              | ((with_reducible refine (C2.out _).mono ?_); rintro _ _ ⟨rfl, B⟩; replace BB := bon BB B; clear B)
              | ((with_reducible refine (C3.out _).mono ?_); rintro _ _ ⟨rfl, B⟩; replace BB := bon BB B; clear B))
          | (go_at_call 20; first
              | ((with_reducible refine (C4.out _).mono ?_); rintro _ _ ⟨rfl, B⟩; replace BB := bon BB B; clear B)
              | ((with_reducible refine (C5.out _).mono ?_); rintro _ _ ⟨rfl, B⟩; replace BB := bon BB B; clear B))
          | (first | (go_at_call 15; refine (example33_b _).mono ?_; rintro _ _ ⟨rfl, B⟩; replace BB := bon BB B)))
        go_ret
        exact ⟨rfl, BB⟩

theorem modes_walk (n : Int) (cw : Bool) (w : World) : Calls Try.prog 8 #[.int .i64 n, .bool cw] w fun e w' => e = .returned (.bool true) ∧ Below w.heap.size w w' := by
  refine modes_case n cw _ _ _ _ _ (Lib.hid rfl) (Lib.hid rfl) (Lib.hid rfl) (Lib.hid rfl) (Lib.hid rfl) ?_ w
  rcases (show n < 0 ∨ n = 0 ∨ 0 < n by omega) with h | rfl | h
  · refine .inr ⟨by omega, ?_⟩
    cases cw <;> simp [keepv, frontv, h, show ¬ n = 0 by omega, show ¬ 0 < n by omega]
  · refine .inl ⟨rfl, ?_⟩
    cases cw <;> simp [keepv, frontv]
  · refine .inr ⟨by omega, ?_⟩
    cases cw <;> simp [keepv, frontv, h, show ¬ n = 0 by omega, show ¬ n < 0 by omega]

set_option maxRecDepth 100000 in
set_option maxHeartbeats 1000000 in
theorem area_walk (a b c : SV) (w : World) : Calls Try.prog 4 #[.agg #[.int .i64 a.x, .int .i64 a.y, .int .i64 a.z, .int .i64 a.q, .slice a.A a.n a.c, .int .i64 b.x, .int .i64 b.y, .int .i64 b.z, .int .i64 b.q, .slice b.A b.n b.c, .int .i64 c.x, .int .i64 c.y, .int .i64 c.z, .int .i64 c.q, .slice c.A c.n c.c]] w fun e w' => e = .returned (.bool true) ∧ Below w.heap.size w w' := by
  have X0 := EBox.made w #[.int .i64 a.x, .int .i64 a.y, .int .i64 a.z, .int .i64 a.q, .slice a.A a.n a.c, .int .i64 b.x, .int .i64 b.y, .int .i64 b.z, .int .i64 b.q, .slice b.A b.n b.c, .int .i64 c.x, .int .i64 c.y, .int .i64 c.z, .int .i64 c.q, .slice c.A c.n c.c] 25
  have BB := box_below w #[.int .i64 a.x, .int .i64 a.y, .int .i64 a.z, .int .i64 a.q, .slice a.A a.n a.c, .int .i64 b.x, .int .i64 b.y, .int .i64 b.z, .int .i64 b.q, .slice b.A b.n b.c, .int .i64 c.x, .int .i64 c.y, .int .i64 c.z, .int .i64 c.q, .slice c.A c.n c.c] 25
  have Et3 : (w.alloc (.cells #[.int .i64 a.x, .int .i64 a.y, .int .i64 a.z, .int .i64 a.q, .slice a.A a.n a.c, .int .i64 b.x, .int .i64 b.y, .int .i64 b.z, .int .i64 b.q, .slice b.A b.n b.c, .int .i64 c.x, .int .i64 c.y, .int .i64 c.z, .int .i64 c.q, .slice c.A c.n c.c] 25)).rangeAt w.heap.size 0 _ := X0.1
  clear X0
  go_enter Try.func4, Try.ntmps4
  go_wp2_with fail
  refine wp_region_quiet_below (by kernel_rfl) (by kernel_rfl) ?_
  repeat (first | (go_big_quiet_want; refine quiet_eload _ _ rfl rk_t3 rfl (fun W hW => rangeAt_on Et3 (below_regrown' hW)) rfl ?_; go_simp; go_big_quiet_on) | go_big_quiet_step ((first | (go_at_call 16; exact Calls.regrown_of (inRange_b a b c _)) | (go_at_call 17; exact Calls.regrown_of (rinRange_b a b c _)) | (go_at_call 18; exact Calls.regrown_of (area_b a b c _)) | (go_at_call 19; exact Calls.regrown_of (rarea_b a b c _)) | (go_at_call 15; exact Calls.regrown_of (example33_b _)))) | quiet_step ((first | (go_at_call 16; exact Calls.regrown_of (inRange_b a b c _)) | (go_at_call 17; exact Calls.regrown_of (rinRange_b a b c _)) | (go_at_call 18; exact Calls.regrown_of (area_b a b c _)) | (go_at_call 19; exact Calls.regrown_of (rarea_b a b c _)) | (go_at_call 15; exact Calls.regrown_of (example33_b _)))))
  refine wpQuiet_nil ?_
  intro W hw'
  have B := below_regrown' hw'
  clear hw'
  replace BB := bon BB B
  replace Et3 := rangeAt_on Et3 B
  go_wp2
  go_ret
  exact ⟨rfl, BB⟩

set_option maxRecDepth 100000 in
set_option maxHeartbeats 2000000 in
theorem exchange_walk (a b c : SV) (w : World) : Calls Try.prog 7 #[.agg #[.int .i64 a.x, .int .i64 a.y, .int .i64 a.z, .int .i64 a.q, .slice a.A a.n a.c, .int .i64 b.x, .int .i64 b.y, .int .i64 b.z, .int .i64 b.q, .slice b.A b.n b.c, .int .i64 c.x, .int .i64 c.y, .int .i64 c.z, .int .i64 c.q, .slice c.A c.n c.c]] w fun e w' => e = .returned (.bool true) ∧ Below w.heap.size w w' := by
  have X0 := EBox.made w #[.int .i64 a.x, .int .i64 a.y, .int .i64 a.z, .int .i64 a.q, .slice a.A a.n a.c, .int .i64 b.x, .int .i64 b.y, .int .i64 b.z, .int .i64 b.q, .slice b.A b.n b.c, .int .i64 c.x, .int .i64 c.y, .int .i64 c.z, .int .i64 c.q, .slice c.A c.n c.c] 25
  have BB := box_below w #[.int .i64 a.x, .int .i64 a.y, .int .i64 a.z, .int .i64 a.q, .slice a.A a.n a.c, .int .i64 b.x, .int .i64 b.y, .int .i64 b.z, .int .i64 b.q, .slice b.A b.n b.c, .int .i64 c.x, .int .i64 c.y, .int .i64 c.z, .int .i64 c.q, .slice c.A c.n c.c] 25
  have Et3 : (w.alloc (.cells #[.int .i64 a.x, .int .i64 a.y, .int .i64 a.z, .int .i64 a.q, .slice a.A a.n a.c, .int .i64 b.x, .int .i64 b.y, .int .i64 b.z, .int .i64 b.q, .slice b.A b.n b.c, .int .i64 c.x, .int .i64 c.y, .int .i64 c.z, .int .i64 c.q, .slice c.A c.n c.c] 25)).rangeAt w.heap.size 0 _ := X0.1
  have Esv_0 : (w.alloc (.cells #[.int .i64 a.x, .int .i64 a.y, .int .i64 a.z, .int .i64 a.q, .slice a.A a.n a.c, .int .i64 b.x, .int .i64 b.y, .int .i64 b.z, .int .i64 b.q, .slice b.A b.n b.c, .int .i64 c.x, .int .i64 c.y, .int .i64 c.z, .int .i64 c.q, .slice c.A c.n c.c] 25)).rangeAt w.heap.size 0 (#[.int .i64 a.x, .int .i64 a.y, .int .i64 a.z, .int .i64 a.q, .slice a.A a.n a.c]).toList := range_cut X0.1 0 5
  have Esv_1 : (w.alloc (.cells #[.int .i64 a.x, .int .i64 a.y, .int .i64 a.z, .int .i64 a.q, .slice a.A a.n a.c, .int .i64 b.x, .int .i64 b.y, .int .i64 b.z, .int .i64 b.q, .slice b.A b.n b.c, .int .i64 c.x, .int .i64 c.y, .int .i64 c.z, .int .i64 c.q, .slice c.A c.n c.c] 25)).rangeAt w.heap.size 5 (#[.int .i64 b.x, .int .i64 b.y, .int .i64 b.z, .int .i64 b.q, .slice b.A b.n b.c]).toList := range_cut X0.1 5 5
  have Esv_2 : (w.alloc (.cells #[.int .i64 a.x, .int .i64 a.y, .int .i64 a.z, .int .i64 a.q, .slice a.A a.n a.c, .int .i64 b.x, .int .i64 b.y, .int .i64 b.z, .int .i64 b.q, .slice b.A b.n b.c, .int .i64 c.x, .int .i64 c.y, .int .i64 c.z, .int .i64 c.q, .slice c.A c.n c.c] 25)).rangeAt w.heap.size 10 (#[.int .i64 c.x, .int .i64 c.y, .int .i64 c.z, .int .i64 c.q, .slice c.A c.n c.c]).toList := range_cut X0.1 10 5
  clear X0
  have hb := areav_bd a b c
  have e1 := areav_swap a b c
  have e2 : areav a c b = -areav a b c := by rw [areav_turn b a c, areav_swap]
  have e3 : areav c b a = -areav a b c := by rw [areav_turn a c b, areav_turn b a c, areav_swap]
  have e4 := areav_turn a b c
  obtain ⟨n, hn⟩ : ∃ n, areav a b c = n := ⟨_, rfl⟩
  rw [hn] at hb e1 e2 e3 e4
  have C0 := Lib.hid (fun W => area_at a b c n hn W)
  have C1 := Lib.hid (fun W => area_at b a c _ e1 W)
  have C2 := Lib.hid (fun W => area_at a c b _ e2 W)
  have C3 := Lib.hid (fun W => area_at c b a _ e3 W)
  have C4 := Lib.hid (fun W => area_at b c a _ e4 W)
  clear e1 e2 e3 e4 hn
  go_enter Try.func7, Try.ntmps7
  go_wp2_with (first
    | ((with_reducible refine eload15L rk_t3 Et3 ?_ ?_); focus rfl)
    | ((with_reducible refine eload5L rk_sv Esv_0 ?_ ?_); focus rfl)
    | ((with_reducible refine eload5L rk_sv Esv_1 ?_ ?_); focus rfl)
    | ((with_reducible refine eload5L rk_sv Esv_2 ?_ ?_); focus rfl)
    | (refine wpList_ungd rfl ?_; first
        | ((with_reducible refine eload5L rk_sv Esv_0 ?_ ?_); focus rfl)
        | ((with_reducible refine eload5L rk_sv Esv_1 ?_ ?_); focus rfl)
        | ((with_reducible refine eload5L rk_sv Esv_2 ?_ ?_); focus rfl))
    | (go_at_call 18; first
        | ((with_reducible refine (C0.out _).mono ?_); rintro _ _ ⟨rfl, B⟩; (replace BB := bon BB B; replace Et3 := rangeAt_on Et3 B; replace Esv_0 := rangeAt_on Esv_0 B; replace Esv_1 := rangeAt_on Esv_1 B; replace Esv_2 := rangeAt_on Esv_2 B))
        | ((with_reducible refine (C1.out _).mono ?_); rintro _ _ ⟨rfl, B⟩; (replace BB := bon BB B; replace Et3 := rangeAt_on Et3 B; replace Esv_0 := rangeAt_on Esv_0 B; replace Esv_1 := rangeAt_on Esv_1 B; replace Esv_2 := rangeAt_on Esv_2 B))
        | ((with_reducible refine (C2.out _).mono ?_); rintro _ _ ⟨rfl, B⟩; (replace BB := bon BB B; replace Et3 := rangeAt_on Et3 B; replace Esv_0 := rangeAt_on Esv_0 B; replace Esv_1 := rangeAt_on Esv_1 B; replace Esv_2 := rangeAt_on Esv_2 B))
        | ((with_reducible refine (C3.out _).mono ?_); rintro _ _ ⟨rfl, B⟩; (replace BB := bon BB B; replace Et3 := rangeAt_on Et3 B; replace Esv_0 := rangeAt_on Esv_0 B; replace Esv_1 := rangeAt_on Esv_1 B; replace Esv_2 := rangeAt_on Esv_2 B))
        | ((with_reducible refine (C4.out _).mono ?_); rintro _ _ ⟨rfl, B⟩; (replace BB := bon BB B; replace Et3 := rangeAt_on Et3 B; replace Esv_0 := rangeAt_on Esv_0 B; replace Esv_1 := rangeAt_on Esv_1 B; replace Esv_2 := rangeAt_on Esv_2 B)))
    | (first | (go_at_call 15; refine (example33_b _).mono ?_; rintro _ _ ⟨rfl, B⟩; replace BB := bon BB B; replace Et3 := rangeAt_on Et3 B; replace Esv_0 := rangeAt_on Esv_0 B; replace Esv_1 := rangeAt_on Esv_1 B; replace Esv_2 := rangeAt_on Esv_2 B)))
  go_ret
  exact ⟨rfl, BB⟩

end Go.Proofs.Ytighmijnlngneaa
