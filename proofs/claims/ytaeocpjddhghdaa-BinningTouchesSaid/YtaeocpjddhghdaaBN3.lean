/- Touches of package binning and of the reference; the walk of BinningTouches. -/
import Derived.Test.YtaeocpjddhghdaaBN2
import Derived.Test.YtaeocpjddhghdaaEGB
namespace Go.Proofs.Ytaeocpjddhghdaa
set_option linter.unusedSimpArgs false
open Go.RowKit Go.Sort Go.ChangeShapes Go.WideShapes
set_option linter.unusedVariables false

theorem rect_at (ww hh t : Int) (v : Value) (h : trv ww hh t = v) (w : World) : Calls Try.prog 18 #[.int .i64 ww, .int .i64 hh, .int .i64 t] w fun e w' => e = .returned v ∧ Below w.heap.size w w' := h ▸ rect_b ww hh t w

theorem rrect_at (ww hh t : Int) (v : Value) (h : trv ww hh t = v) (w : World) : Calls Try.prog 19 #[.int .i64 ww, .int .i64 hh, .int .i64 t] w fun e w' => e = .returned v ∧ Below w.heap.size w w' := h ▸ rrect_b ww hh t w

/-- The common point of a box and a rectangle. -/
def tch (v : Bool) (x y w h l0 l1 l2 l3 : Int) : Bool := if w = 0 then false else (v && (decide (l0 ≤ (x + w) * 256) && (decide (x * 256 ≤ l2) && (decide (l1 ≤ (y + h) * 256) && decide (y * 256 ≤ l3)))))

theorem rect_bd (ww hh t : Int) : (0 ≤ trx ww hh t ∧ trx ww hh t ≤ 64) ∧ (0 ≤ tryv ww hh t ∧ tryv ww hh t ≤ 64) ∧ (-64 ≤ trw ww hh t ∧ trw ww hh t ≤ 64) ∧ (-64 ≤ trh ww hh t ∧ trh ww hh t ≤ 64) := by
  unfold trx tryv trw trh
  by_cases h : t < 0 ∨ cols ww hh * rows ww hh ≤ t
  · simp only [if_pos h]
    omega
  · simp only [if_neg h]
    have hp : 0 < cols ww hh * rows ww hh := by omega
    obtain ⟨s1, s2⟩ := pos_sized hp
    obtain ⟨a1, a2⟩ := szd_yes s1
    obtain ⟨b1, b2⟩ := szd_yes s2
    have hc := cols_bd ww hh
    have hc1 : 1 ≤ cols ww hh := by rw [(cols_yes s1 s2).1]; exact (tls_bd a1 a2).1
    have tp := tile_parts hc1 hc.2.1.1 (show 0 ≤ t by omega) (show t < cols ww hh * rows ww hh by omega)
    omega

def touv (a b c : SV) (ww hh t : Int) : Bool := if tgv a b c = true then tch true (trx ww hh t) (tryv ww hh t) (trw ww hh t) (trh ww hh t) (min3 a.x b.x c.x) (min3 a.y b.y c.y) (max3 a.x b.x c.x) (max3 a.y b.y c.y) else tch false (trx ww hh t) (tryv ww hh t) (trw ww hh t) (trh ww hh t) 0 0 0 0

set_option maxRecDepth 100000 in
set_option maxHeartbeats 2000000 in
theorem touches_case (a b c : SV) (p : Int) (f : Bool) (ww hh t x y w' h l0 l1 l2 l3 : Int) (v : Bool) (hr : trv ww hh t = .tuple #[.int .i64 x, .int .i64 y, .int .i64 w', .int .i64 h]) (hv : tgv a b c = v) (hb : bds a b c = .tuple #[.int .i64 l0, .int .i64 l1, .int .i64 l2, .int .i64 l3]) (b0 : 0 ≤ x ∧ x ≤ 64) (b1 : 0 ≤ y ∧ y ≤ 64) (b2 : -64 ≤ w' ∧ w' ≤ 64) (b3 : -64 ≤ h ∧ h ≤ 64) (w : World) : Calls Try.prog 23 #[.agg #[.int .i64 a.x, .int .i64 a.y, .int .i64 a.z, .int .i64 a.q, .slice a.A a.n a.c, .int .i64 b.x, .int .i64 b.y, .int .i64 b.z, .int .i64 b.q, .slice b.A b.n b.c, .int .i64 c.x, .int .i64 c.y, .int .i64 c.z, .int .i64 c.q, .slice c.A c.n c.c, .int .i64 p, .bool f], .int .i64 ww, .int .i64 hh, .int .i64 t] w fun e w1 => e = .returned (.bool (tch v x y w' h l0 l1 l2 l3)) ∧ Below w.heap.size w w1 := by
  have BB := box_below w #[.int .i64 a.x, .int .i64 a.y, .int .i64 a.z, .int .i64 a.q, .slice a.A a.n a.c, .int .i64 b.x, .int .i64 b.y, .int .i64 b.z, .int .i64 b.q, .slice b.A b.n b.c, .int .i64 c.x, .int .i64 c.y, .int .i64 c.z, .int .i64 c.q, .slice c.A c.n c.c, .int .i64 p, .bool f] 35
  have X0 := EBox.made w #[.int .i64 a.x, .int .i64 a.y, .int .i64 a.z, .int .i64 a.q, .slice a.A a.n a.c, .int .i64 b.x, .int .i64 b.y, .int .i64 b.z, .int .i64 b.q, .slice b.A b.n b.c, .int .i64 c.x, .int .i64 c.y, .int .i64 c.z, .int .i64 c.q, .slice c.A c.n c.c, .int .i64 p, .bool f] 35
  have Etr := range_cut X0.1 0 17
  simp only [List.drop_succ_cons, List.drop_zero, List.take_succ_cons, List.take_zero, Nat.zero_add] at Etr
  clear X0
  have CR := Lib.hid (fun W => rect_at ww hh t _ hr W)
  have CV := Lib.hid (fun W => valid_at a b c p f v hv W)
  have CB := Lib.hid (fun W => bounds_at a b c p f _ hb W)
  obtain ⟨b00, b01⟩ := b0
  obtain ⟨b10, b11⟩ := b1
  obtain ⟨b20, b21⟩ := b2
  obtain ⟨b30, b31⟩ := b3
  clear hr hv hb
  unfold tch
  by_cases h0 : w' = 0
  · subst h0
    go_enter Try.func23, Try.ntmps23
    go_wp2_with (first
    | ((with_reducible refine eload17L rk_tr Etr ?_ ?_); (focus rfl)) | (refine wpList_ungd rfl ?_; (with_reducible refine eload17L rk_tr Etr ?_ ?_); (focus rfl))
    | (go_at_call 18; (with_reducible refine (CR.out _).mono ?_); rintro _ W1 ⟨rfl, B⟩; replace BB := bon BB B; replace Etr := rangeAt_on Etr (B); clear B))
    go_ret
    exact ⟨rfl, BB⟩
  · have g0 : (w' == 0) = false := by simpa using h0
    cases v
    · go_enter Try.func23, Try.ntmps23
      go_wp2_with (first
    | ((with_reducible refine eload17L rk_tr Etr ?_ ?_); (focus rfl)) | (refine wpList_ungd rfl ?_; (with_reducible refine eload17L rk_tr Etr ?_ ?_); (focus rfl))
    | (go_at_call 18; (with_reducible refine (CR.out _).mono ?_); rintro _ W1 ⟨rfl, B⟩; replace BB := bon BB B; replace Etr := rangeAt_on Etr (B); clear B)
    | (go_at_call 31; (with_reducible refine (CV.out _).mono ?_); rintro _ W2 ⟨rfl, B⟩; replace BB := bon BB B; skip; clear B))
      go_ret
      exact ⟨ret_bool (by simp), BB⟩
    · go_enter Try.func23, Try.ntmps23
      go_wp2_with (first
    | ((with_reducible refine eload17L rk_tr Etr ?_ ?_); (focus rfl)) | (refine wpList_ungd rfl ?_; (with_reducible refine eload17L rk_tr Etr ?_ ?_); (focus rfl))
    | (go_at_call 18; (with_reducible refine (CR.out _).mono ?_); rintro _ W1 ⟨rfl, B⟩; replace BB := bon BB B; replace Etr := rangeAt_on Etr (B); clear B)
    | (go_at_call 31; (with_reducible refine (CV.out _).mono ?_); rintro _ W2 ⟨rfl, B⟩; replace BB := bon BB B; replace Etr := rangeAt_on Etr (B); clear B)
    | (go_at_call 32; (with_reducible refine (CB.out _).mono ?_); rintro _ W3 ⟨rfl, B⟩; replace BB := bon BB B; skip; clear B))
      all_goals go_ret
      all_goals exact ⟨ret_bool (by first | (simp_all; done) | (simp_all; omega)), BB⟩

theorem touches_b (a b c : SV) (p : Int) (f : Bool) (ww hh t : Int) (w : World) : Calls Try.prog 23 #[.agg #[.int .i64 a.x, .int .i64 a.y, .int .i64 a.z, .int .i64 a.q, .slice a.A a.n a.c, .int .i64 b.x, .int .i64 b.y, .int .i64 b.z, .int .i64 b.q, .slice b.A b.n b.c, .int .i64 c.x, .int .i64 c.y, .int .i64 c.z, .int .i64 c.q, .slice c.A c.n c.c, .int .i64 p, .bool f], .int .i64 ww, .int .i64 hh, .int .i64 t] w fun e w1 => e = .returned (.bool (touv a b c ww hh t)) ∧ Below w.heap.size w w1 := by
  obtain ⟨h0, h1, h2, h3⟩ := rect_bd ww hh t
  unfold touv
  cases hv : tgv a b c
  · exact touches_case a b c p f ww hh t _ _ _ _ 0 0 0 0 false rfl hv (by unfold bds; rw [hv]; rfl) h0 h1 h2 h3 w
  · exact touches_case a b c p f ww hh t _ _ _ _ _ _ _ _ true rfl hv (by unfold bds; rw [hv]; rfl) h0 h1 h2 h3 w

set_option maxRecDepth 100000 in
set_option maxHeartbeats 2000000 in
theorem rtouches_case (a b c : SV) (p : Int) (f : Bool) (ww hh t x y w' h l0 l1 l2 l3 : Int) (v : Bool) (hr : trv ww hh t = .tuple #[.int .i64 x, .int .i64 y, .int .i64 w', .int .i64 h]) (hv : tgv a b c = v) (hb : bds a b c = .tuple #[.int .i64 l0, .int .i64 l1, .int .i64 l2, .int .i64 l3]) (b0 : 0 ≤ x ∧ x ≤ 64) (b1 : 0 ≤ y ∧ y ≤ 64) (b2 : -64 ≤ w' ∧ w' ≤ 64) (b3 : -64 ≤ h ∧ h ≤ 64) (w : World) : Calls Try.prog 24 #[.agg #[.int .i64 a.x, .int .i64 a.y, .int .i64 a.z, .int .i64 a.q, .slice a.A a.n a.c, .int .i64 b.x, .int .i64 b.y, .int .i64 b.z, .int .i64 b.q, .slice b.A b.n b.c, .int .i64 c.x, .int .i64 c.y, .int .i64 c.z, .int .i64 c.q, .slice c.A c.n c.c, .int .i64 p, .bool f], .int .i64 ww, .int .i64 hh, .int .i64 t] w fun e w1 => e = .returned (.bool (tch v x y w' h l0 l1 l2 l3)) ∧ Below w.heap.size w w1 := by
  have BB := box_below w #[.int .i64 a.x, .int .i64 a.y, .int .i64 a.z, .int .i64 a.q, .slice a.A a.n a.c, .int .i64 b.x, .int .i64 b.y, .int .i64 b.z, .int .i64 b.q, .slice b.A b.n b.c, .int .i64 c.x, .int .i64 c.y, .int .i64 c.z, .int .i64 c.q, .slice c.A c.n c.c, .int .i64 p, .bool f] 35
  have X0 := EBox.made w #[.int .i64 a.x, .int .i64 a.y, .int .i64 a.z, .int .i64 a.q, .slice a.A a.n a.c, .int .i64 b.x, .int .i64 b.y, .int .i64 b.z, .int .i64 b.q, .slice b.A b.n b.c, .int .i64 c.x, .int .i64 c.y, .int .i64 c.z, .int .i64 c.q, .slice c.A c.n c.c, .int .i64 p, .bool f] 35
  have Etr := range_cut X0.1 0 17
  simp only [List.drop_succ_cons, List.drop_zero, List.take_succ_cons, List.take_zero, Nat.zero_add] at Etr
  clear X0
  have CR := Lib.hid (fun W => rrect_at ww hh t _ hr W)
  have CV := Lib.hid (fun W => rvalid_at a b c p f v hv W)
  have CB := Lib.hid (fun W => rbounds_at a b c p f _ hb W)
  obtain ⟨b00, b01⟩ := b0
  obtain ⟨b10, b11⟩ := b1
  obtain ⟨b20, b21⟩ := b2
  obtain ⟨b30, b31⟩ := b3
  clear hr hv hb
  unfold tch
  by_cases h0 : w' = 0
  · subst h0
    go_enter Try.func24, Try.ntmps24
    go_wp2_with (first
    | ((with_reducible refine eload17L rk_tr Etr ?_ ?_); (focus rfl)) | (refine wpList_ungd rfl ?_; (with_reducible refine eload17L rk_tr Etr ?_ ?_); (focus rfl))
    | (go_at_call 19; (with_reducible refine (CR.out _).mono ?_); rintro _ W1 ⟨rfl, B⟩; replace BB := bon BB B; replace Etr := rangeAt_on Etr (B); clear B))
    go_ret
    exact ⟨rfl, BB⟩
  · have g0 : (w' == 0) = false := by simpa using h0
    cases v
    · go_enter Try.func24, Try.ntmps24
      go_wp2_with (first
    | ((with_reducible refine eload17L rk_tr Etr ?_ ?_); (focus rfl)) | (refine wpList_ungd rfl ?_; (with_reducible refine eload17L rk_tr Etr ?_ ?_); (focus rfl))
    | (go_at_call 19; (with_reducible refine (CR.out _).mono ?_); rintro _ W1 ⟨rfl, B⟩; replace BB := bon BB B; replace Etr := rangeAt_on Etr (B); clear B)
    | (go_at_call 33; (with_reducible refine (CV.out _).mono ?_); rintro _ W2 ⟨rfl, B⟩; replace BB := bon BB B; skip; clear B))
      go_ret
      exact ⟨ret_bool (by simp), BB⟩
    · go_enter Try.func24, Try.ntmps24
      go_wp2_with (first
    | ((with_reducible refine eload17L rk_tr Etr ?_ ?_); (focus rfl)) | (refine wpList_ungd rfl ?_; (with_reducible refine eload17L rk_tr Etr ?_ ?_); (focus rfl))
    | (go_at_call 19; (with_reducible refine (CR.out _).mono ?_); rintro _ W1 ⟨rfl, B⟩; replace BB := bon BB B; replace Etr := rangeAt_on Etr (B); clear B)
    | (go_at_call 33; (with_reducible refine (CV.out _).mono ?_); rintro _ W2 ⟨rfl, B⟩; replace BB := bon BB B; replace Etr := rangeAt_on Etr (B); clear B)
    | (go_at_call 34; (with_reducible refine (CB.out _).mono ?_); rintro _ W3 ⟨rfl, B⟩; replace BB := bon BB B; skip; clear B))
      all_goals go_ret
      all_goals exact ⟨ret_bool (by first | (simp_all; done) | (simp_all; omega)), BB⟩

theorem rtouches_b (a b c : SV) (p : Int) (f : Bool) (ww hh t : Int) (w : World) : Calls Try.prog 24 #[.agg #[.int .i64 a.x, .int .i64 a.y, .int .i64 a.z, .int .i64 a.q, .slice a.A a.n a.c, .int .i64 b.x, .int .i64 b.y, .int .i64 b.z, .int .i64 b.q, .slice b.A b.n b.c, .int .i64 c.x, .int .i64 c.y, .int .i64 c.z, .int .i64 c.q, .slice c.A c.n c.c, .int .i64 p, .bool f], .int .i64 ww, .int .i64 hh, .int .i64 t] w fun e w1 => e = .returned (.bool (touv a b c ww hh t)) ∧ Below w.heap.size w w1 := by
  obtain ⟨h0, h1, h2, h3⟩ := rect_bd ww hh t
  unfold touv
  cases hv : tgv a b c
  · exact rtouches_case a b c p f ww hh t _ _ _ _ 0 0 0 0 false rfl hv (by unfold bds; rw [hv]; rfl) h0 h1 h2 h3 w
  · exact rtouches_case a b c p f ww hh t _ _ _ _ _ _ _ _ true rfl hv (by unfold bds; rw [hv]; rfl) h0 h1 h2 h3 w

set_option maxRecDepth 100000 in
set_option maxHeartbeats 2000000 in
theorem touches_walk (a b c : SV) (p : Int) (f : Bool) (ww hh t : Int) (w : World) : Calls Try.prog 6 #[.agg #[.int .i64 a.x, .int .i64 a.y, .int .i64 a.z, .int .i64 a.q, .slice a.A a.n a.c, .int .i64 b.x, .int .i64 b.y, .int .i64 b.z, .int .i64 b.q, .slice b.A b.n b.c, .int .i64 c.x, .int .i64 c.y, .int .i64 c.z, .int .i64 c.q, .slice c.A c.n c.c, .int .i64 p, .bool f], .agg #[.int .i64 ww, .int .i64 hh], .int .i64 t] w fun e w' => e = .returned (.bool true) ∧ Below w.heap.size w w' := by
  have BB := box_below w #[.int .i64 a.x, .int .i64 a.y, .int .i64 a.z, .int .i64 a.q, .slice a.A a.n a.c, .int .i64 b.x, .int .i64 b.y, .int .i64 b.z, .int .i64 b.q, .slice b.A b.n b.c, .int .i64 c.x, .int .i64 c.y, .int .i64 c.z, .int .i64 c.q, .slice c.A c.n c.c, .int .i64 p, .bool f] 35
  have X0 := EBox.made w #[.int .i64 a.x, .int .i64 a.y, .int .i64 a.z, .int .i64 a.q, .slice a.A a.n a.c, .int .i64 b.x, .int .i64 b.y, .int .i64 b.z, .int .i64 b.q, .slice b.A b.n b.c, .int .i64 c.x, .int .i64 c.y, .int .i64 c.z, .int .i64 c.q, .slice c.A c.n c.c, .int .i64 p, .bool f] 35
  have hsz1 : (w.alloc (.cells #[.int .i64 a.x, .int .i64 a.y, .int .i64 a.z, .int .i64 a.q, .slice a.A a.n a.c, .int .i64 b.x, .int .i64 b.y, .int .i64 b.z, .int .i64 b.q, .slice b.A b.n b.c, .int .i64 c.x, .int .i64 c.y, .int .i64 c.z, .int .i64 c.q, .slice c.A c.n c.c, .int .i64 p, .bool f] 35)).heap.size = w.heap.size + 1 := by simp
  have X1 := EBox.made (w.alloc (.cells #[.int .i64 a.x, .int .i64 a.y, .int .i64 a.z, .int .i64 a.q, .slice a.A a.n a.c, .int .i64 b.x, .int .i64 b.y, .int .i64 b.z, .int .i64 b.q, .slice b.A b.n b.c, .int .i64 c.x, .int .i64 c.y, .int .i64 c.z, .int .i64 c.q, .slice c.A c.n c.c, .int .i64 p, .bool f] 35)) #[.int .i64 ww, .int .i64 hh] 40
  rw [hsz1] at X1
  replace X0 := X0.on (Nat.succ_pos _) (box_below (w.alloc (.cells #[.int .i64 a.x, .int .i64 a.y, .int .i64 a.z, .int .i64 a.q, .slice a.A a.n a.c, .int .i64 b.x, .int .i64 b.y, .int .i64 b.z, .int .i64 b.q, .slice b.A b.n b.c, .int .i64 c.x, .int .i64 c.y, .int .i64 c.z, .int .i64 c.q, .slice c.A c.n c.c, .int .i64 p, .bool f] 35)) #[.int .i64 ww, .int .i64 hh] 40)
  replace BB := bon BB (box_below (w.alloc (.cells #[.int .i64 a.x, .int .i64 a.y, .int .i64 a.z, .int .i64 a.q, .slice a.A a.n a.c, .int .i64 b.x, .int .i64 b.y, .int .i64 b.z, .int .i64 b.q, .slice b.A b.n b.c, .int .i64 c.x, .int .i64 c.y, .int .i64 c.z, .int .i64 c.q, .slice c.A c.n c.c, .int .i64 p, .bool f] 35)) #[.int .i64 ww, .int .i64 hh] 40)
  clear hsz1
  have Etr := range_cut X0.1 0 17
  simp only [List.drop_succ_cons, List.drop_zero, List.take_succ_cons, List.take_zero, Nat.zero_add] at Etr
  have c0 := X1.cell (i := 0) rfl
  have c1 := X1.cell (i := 1) rfl
  clear X0 X1
  have CT := Lib.hid (fun W => touches_b a b c p f ww hh t W)
  have CU := Lib.hid (fun W => rtouches_b a b c p f ww hh t W)
  go_enter Try.func6, Try.ntmps6
  go_wp2_with fail
  have k_c0 := cell_regrown c0
  have k_c1 := cell_regrown c1
  refine wp_region_quiet_below (by kernel_rfl) (by kernel_rfl) ?_
  repeat (first | ((try simp only [List.getElem_toArray, List.getElem_cons_succ, List.getElem_cons_zero]); go_big_quiet_want; refine quiet_eload _ _ rfl rk_tr rfl (fun W hW => rangeAt_on Etr (below_regrown' hW)) rfl ?_; go_simp; go_big_quiet_on) | ((try simp only [List.getElem_toArray, List.getElem_cons_succ, List.getElem_cons_zero]); go_big_quiet_step ((first | (go_at_call 23; with_reducible exact Calls.regrown_of (CT.out _)) | (go_at_call 24; with_reducible exact Calls.regrown_of (CU.out _)) | (go_at_call 10; with_reducible exact Calls.regrown_of (example36_b _))))) | ((try simp only [List.getElem_toArray, List.getElem_cons_succ, List.getElem_cons_zero]); quiet_step ((first | (go_at_call 23; with_reducible exact Calls.regrown_of (CT.out _)) | (go_at_call 24; with_reducible exact Calls.regrown_of (CU.out _)) | (go_at_call 10; with_reducible exact Calls.regrown_of (example36_b _))))))
  refine wpQuiet_nil ?_
  intro W9 hw'
  have B9 := below_regrown' hw'
  clear hw' k_c0 k_c1
  replace Etr := rangeAt_on Etr (B9)
  replace c0 := cell_below (B9) c0
  replace c1 := cell_below (B9) c1
  replace BB := bon BB B9
  clear B9
  go_wp2
  go_ret
  exact ⟨rfl, BB⟩

end Go.Proofs.Ytaeocpjddhghdaa
