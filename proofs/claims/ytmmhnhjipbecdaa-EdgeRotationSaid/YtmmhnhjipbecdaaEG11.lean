/- The walk of EdgeRotation. -/
import Derived.Test.YtmmhnhjipbecdaaEG10
namespace Go.Proofs.Ytmmhnhjipbecdaa
set_option linter.unusedSimpArgs false
open Go.RowKit Go.Sort Go.ChangeShapes Go.WideShapes
set_option linter.unusedVariables false

section
variable {P : Program} {ops : Array Oper} {Q : Exit → Act → World → Prop} {rest : List Oper} {a : Act} {W : World} {b : Nat}

/-- The first cells of a block stored whole, the others stay. -/
theorem esetRL {dst : Option Tmp} {ty t : TypeId} {x y : Operand} {pos : String} {after : Array Edge} {us vs rs : List Value} {k : Nat} (T : RowK P t k) (hu : us.length = k) (hv : vs.length = k) (K : EBox W b (us ++ rs)) (hx : a.eval x = .pointer (some ⟨b, 0, none⟩)) (hy : a.eval y = .agg vs.toArray) (h1 : ∀ v ∈ vs, v.oneCell' = true)
    (H : ∀ V, EBox V b (vs ++ rs) → Below b W V → (∀ a : Addr, a.block ≠ b → V.cell? a = W.cell? a) → (∀ a : Addr, V.frozen? a = W.frozen? a) → wpList P ops Q rest (a.put dst undef) V) :
    wpList P ops Q ({ dst := dst, op := .store t x y, type := ty, pos := pos, after := after, guard := none } :: rest) a W := by
  have ht : W.there b 0 vs.length := by
    intro j hj
    refine ⟨?_, K.2 _⟩
    have hj' : j < (us ++ rs).length := by rw [List.length_append]; omega
    rw [K.1 j _ (List.getElem?_eq_getElem hj')]
    rfl
  have hB : ∀ (vs : List Value) (o : Nat) (V : World), Below b W V → Below b W (V.setCells b o vs) := by
    intro vs
    induction vs with
    | nil => intro o V h; exact h
    | cons v r ih => intro o V h; exact ih (o + 1) _ (h.setCell (Nat.le_refl _) v)
  refine wpList_store_mid rfl t x y rfl b 0 vs.toArray hx hy (by simpa using ht) (by rw [T.size]; simp [hv]) (by simpa using h1) ?_
  have hr := World.rangeAt_setCells_same W b 0 vs ht
  refine H _ ⟨fun j v hj => ?_, fun i => ?_⟩ (by simpa using hB vs 0 W (Below.refl _ _)) (fun a ha => ?_) (fun a => ?_)
  · rw [Nat.zero_add]
    by_cases hlt : j < vs.length
    · rw [List.getElem?_append_left hlt] at hj
      have := hr j v hj
      rwa [Nat.zero_add] at this
    · rw [List.getElem?_append_right (by omega)] at hj
      rw [World.cell?_setCells_out b _ _ _ _ (fun _ => by simp; omega)]
      refine K.cell ?_
      rw [List.getElem?_append_right (by omega), hu, ← hv]
      exact hj
  · rw [World.frozen?_setCells]; exact K.2 i
  · exact World.cell?_setCells_out b _ _ _ _ (fun h => absurd h ha)
  · exact World.frozen?_setCells b _ _ _ _
end

set_option maxRecDepth 100000 in
set_option maxHeartbeats 8000000 in
theorem rot_case (a b c : SV) (p : Int) (f : Bool) (px py x0 x1 x2 S l0 l1 l2 l3 X Y : Int) (v cv : Bool) (hx : wres (wtv a b c px py) = .tuple #[.agg #[.int .i64 x0, .int .i64 x1, .int .i64 x2], .int .i64 S]) (hy : wres (wtv b c a px py) = .tuple #[.agg #[.int .i64 x1, .int .i64 x2, .int .i64 x0], .int .i64 S])
    (hv : trv a b c = v) (hv2 : trv b c a = v) (hc : cov a b c px py = cv) (hc2 : cov b c a px py = cv) (hb : bds a b c = .tuple #[.int .i64 l0, .int .i64 l1, .int .i64 l2, .int .i64 l3]) (hb2 : bds b c a = .tuple #[.int .i64 l0, .int .i64 l1, .int .i64 l2, .int .i64 l3]) (h0 : onv px = X) (h1 : onv py = Y) (hin : cv = true → l0 ≤ X ∧ X ≤ l2 ∧ l1 ≤ Y ∧ Y ≤ l3) (w : World) :
    Calls Try.prog 9 #[.agg #[.int .i64 a.x, .int .i64 a.y, .int .i64 a.z, .int .i64 a.q, .slice a.A a.n a.c, .int .i64 b.x, .int .i64 b.y, .int .i64 b.z, .int .i64 b.q, .slice b.A b.n b.c, .int .i64 c.x, .int .i64 c.y, .int .i64 c.z, .int .i64 c.q, .slice c.A c.n c.c, .int .i64 p, .bool f], .agg #[.int .i64 px, .int .i64 py]] w fun e w' => e = .returned (.bool true) ∧ Below w.heap.size w w' := by
  have BB := box_below w #[.int .i64 a.x, .int .i64 a.y, .int .i64 a.z, .int .i64 a.q, .slice a.A a.n a.c, .int .i64 b.x, .int .i64 b.y, .int .i64 b.z, .int .i64 b.q, .slice b.A b.n b.c, .int .i64 c.x, .int .i64 c.y, .int .i64 c.z, .int .i64 c.q, .slice c.A c.n c.c, .int .i64 p, .bool f] 34
  have X0 := EBox.made w #[.int .i64 a.x, .int .i64 a.y, .int .i64 a.z, .int .i64 a.q, .slice a.A a.n a.c, .int .i64 b.x, .int .i64 b.y, .int .i64 b.z, .int .i64 b.q, .slice b.A b.n b.c, .int .i64 c.x, .int .i64 c.y, .int .i64 c.z, .int .i64 c.q, .slice c.A c.n c.c, .int .i64 p, .bool f] 34
  have hsz1 : (w.alloc (.cells #[.int .i64 a.x, .int .i64 a.y, .int .i64 a.z, .int .i64 a.q, .slice a.A a.n a.c, .int .i64 b.x, .int .i64 b.y, .int .i64 b.z, .int .i64 b.q, .slice b.A b.n b.c, .int .i64 c.x, .int .i64 c.y, .int .i64 c.z, .int .i64 c.q, .slice c.A c.n c.c, .int .i64 p, .bool f] 34)).heap.size = w.heap.size + 1 := by simp
  have X1 := EBox.made (w.alloc (.cells #[.int .i64 a.x, .int .i64 a.y, .int .i64 a.z, .int .i64 a.q, .slice a.A a.n a.c, .int .i64 b.x, .int .i64 b.y, .int .i64 b.z, .int .i64 b.q, .slice b.A b.n b.c, .int .i64 c.x, .int .i64 c.y, .int .i64 c.z, .int .i64 c.q, .slice c.A c.n c.c, .int .i64 p, .bool f] 34)) #[.int .i64 px, .int .i64 py] 22
  rw [hsz1] at X1
  replace X0 := X0.on (Nat.succ_pos _) (box_below (w.alloc (.cells #[.int .i64 a.x, .int .i64 a.y, .int .i64 a.z, .int .i64 a.q, .slice a.A a.n a.c, .int .i64 b.x, .int .i64 b.y, .int .i64 b.z, .int .i64 b.q, .slice b.A b.n b.c, .int .i64 c.x, .int .i64 c.y, .int .i64 c.z, .int .i64 c.q, .slice c.A c.n c.c, .int .i64 p, .bool f] 34)) #[.int .i64 px, .int .i64 py] 22)
  replace BB := bon BB (box_below (w.alloc (.cells #[.int .i64 a.x, .int .i64 a.y, .int .i64 a.z, .int .i64 a.q, .slice a.A a.n a.c, .int .i64 b.x, .int .i64 b.y, .int .i64 b.z, .int .i64 b.q, .slice b.A b.n b.c, .int .i64 c.x, .int .i64 c.y, .int .i64 c.z, .int .i64 c.q, .slice c.A c.n c.c, .int .i64 p, .bool f] 34)) #[.int .i64 px, .int .i64 py] 22)
  clear hsz1
  have Es := range_cut X0.1 0 17
  have Esv_0 := range_cut X0.1 0 5
  have Esv_1 := range_cut X0.1 5 5
  have Esv_2 := range_cut X0.1 10 5
  simp only [List.drop_succ_cons, List.drop_zero, List.take_succ_cons, List.take_zero, Nat.zero_add] at Es Esv_0 Esv_1 Esv_2
  have c0 := X1.cell (i := 0) rfl
  have c1 := X1.cell (i := 1) rfl
  clear X0 X1
  obtain ⟨T, hT⟩ : ∃ T, Value.agg #[.int .i64 a.x, .int .i64 a.y, .int .i64 a.z, .int .i64 a.q, .slice a.A a.n a.c, .int .i64 b.x, .int .i64 b.y, .int .i64 b.z, .int .i64 b.q, .slice b.A b.n b.c, .int .i64 c.x, .int .i64 c.y, .int .i64 c.z, .int .i64 c.q, .slice c.A c.n c.c, .int .i64 p, .bool f] = T := ⟨_, rfl⟩
  obtain ⟨T', hU⟩ : ∃ T', Value.agg #[.int .i64 b.x, .int .i64 b.y, .int .i64 b.z, .int .i64 b.q, .slice b.A b.n b.c, .int .i64 c.x, .int .i64 c.y, .int .i64 c.z, .int .i64 c.q, .slice c.A c.n c.c, .int .i64 a.x, .int .i64 a.y, .int .i64 a.z, .int .i64 a.q, .slice a.A a.n a.c, .int .i64 p, .bool f] = T' := ⟨_, rfl⟩
  have cx' := fun W => wts_at a b c p f px py _ hx W
  rw [hT] at cx'
  have CX := Lib.hid cx'
  have cy' := fun W => wts_at b c a p f px py _ hy W
  rw [hU] at cy'
  have CY := Lib.hid cy'
  have cb' := fun W => bounds_at a b c p f _ hb W
  rw [hT] at cb'
  have CB := Lib.hid cb'
  have cd' := fun W => bounds_at b c a p f _ hb2 W
  rw [hU] at cd'
  have CD := Lib.hid cd'
  have cv' := fun W => valid_at a b c p f v hv W
  rw [hT] at cv'
  have CV := Lib.hid cv'
  have cw' := fun W => valid_at b c a p f v hv2 W
  rw [hU] at cw'
  have CW := Lib.hid cw'
  have cc' := fun W => cov_at a b c p f px py cv hc W
  rw [hT] at cc'
  have CC := Lib.hid cc'
  have ce' := fun W => cov_at b c a p f px py cv hc2 W
  rw [hU] at ce'
  have CE := Lib.hid ce'
  have CL := Lib.hid (fun W => limited_at px X h0 W)
  have CM := Lib.hid (fun W => limited_at py Y h1 W)
  have EQ := fun W => eq3 x1 x2 x0 x1 x2 x0 W
  simp only [beq_self_eq_true, Bool.and_self] at EQ
  have GU := guard3
  have HT := Lib.hid hT
  have HU := Lib.hid hU
  have HI := Lib.hid hin
  clear hx hy hv hv2 hc hc2 hb hb2 h0 h1 hT hU hin cx' cy' cb' cd' cv' cw' cc' ce'
  go_enter Try.func9, Try.ntmps9
  go_wp2_with (first
    | ((with_reducible refine eload17L rk_tr Es ?_ ?_); (focus rfl); rw [HT.out]; have Etr_0 := Es; clear Es; generalize hW : ((w.alloc (.cells #[.int .i64 a.x, .int .i64 a.y, .int .i64 a.z, .int .i64 a.q, .slice a.A a.n a.c, .int .i64 b.x, .int .i64 b.y, .int .i64 b.z, .int .i64 b.q, .slice b.A b.n b.c, .int .i64 c.x, .int .i64 c.y, .int .i64 c.z, .int .i64 c.q, .slice c.A c.n c.c, .int .i64 p, .bool f] 34)).alloc (.cells #[.int .i64 px, .int .i64 py] 22)) = W0 at *; clear hW)
    | ((with_reducible refine wpList_allocL zero_tr ?_); refine esetL (vs := [.int .i64 a.x, .int .i64 a.y, .int .i64 a.z, .int .i64 a.q, .slice a.A a.n a.c, .int .i64 b.x, .int .i64 b.y, .int .i64 b.z, .int .i64 b.q, .slice b.A b.n b.c, .int .i64 c.x, .int .i64 c.y, .int .i64 c.z, .int .i64 c.q, .slice c.A c.n c.c, .int .i64 p, .bool f]) rk_tr rfl rfl (EBox.made _ _ _) rfl HT.out.symm (by simp [Value.oneCell']) ?_; intro V0 Xu B9 hc9 hf9; have lt := block_lt_of_cell (Etr_0 0 _ rfl); have lp := block_lt_of_cell c0; replace B9 := (box_below W0 _ _).trans B9; replace Etr_0 := rangeAt_on Etr_0 (B9); replace Esv_0 := rangeAt_on Esv_0 (B9); replace Esv_1 := rangeAt_on Esv_1 (B9); replace Esv_2 := rangeAt_on Esv_2 (B9); replace c0 := cell_below (B9) c0; replace c1 := cell_below (B9) c1; replace BB := bon BB B9; have lu := Nat.le_of_lt lt; generalize W0.heap.size = bu at *; clear B9 hc9 hf9; go_simp)
    | ((with_reducible refine eload5L rk_sv Esv_0 ?_ ?_); focus rfl)
    | ((with_reducible refine eload5L rk_sv Esv_1 ?_ ?_); focus rfl)
    | ((with_reducible refine eload5L rk_sv Esv_2 ?_ ?_); focus rfl)
    | (refine esetRL (us := [.int .i64 a.x, .int .i64 a.y, .int .i64 a.z, .int .i64 a.q, .slice a.A a.n a.c, .int .i64 b.x, .int .i64 b.y, .int .i64 b.z, .int .i64 b.q, .slice b.A b.n b.c, .int .i64 c.x, .int .i64 c.y, .int .i64 c.z, .int .i64 c.q, .slice c.A c.n c.c]) (vs := [.int .i64 b.x, .int .i64 b.y, .int .i64 b.z, .int .i64 b.q, .slice b.A b.n b.c, .int .i64 c.x, .int .i64 c.y, .int .i64 c.z, .int .i64 c.q, .slice c.A c.n c.c, .int .i64 a.x, .int .i64 a.y, .int .i64 a.z, .int .i64 a.q, .slice a.A a.n a.c]) (rs := [.int .i64 p, .bool f]) rk_t3 rfl rfl Xu rfl rfl (by simp [Value.oneCell']) ?_; intro V1 Y B9 hc9 hf9; replace BB := BB.trans (B9.mono lu); replace Etr_0 := rangeAt_below Etr_0 lt B9; replace c0 := (B9.cell (p := ⟨w.heap.size + 1, 0, none⟩) lp).trans c0; replace c1 := (B9.cell (p := ⟨w.heap.size + 1, 1, none⟩) lp).trans c1; have Etr_1 := range_cut Y.1 0 17; simp only [List.drop_zero, List.take_succ_cons, List.take_zero, Nat.zero_add, List.cons_append, List.nil_append] at Etr_1; clear Y B9 hc9 hf9 Xu Esv_0 Esv_1 Esv_2 lu lt lp)
    | ((with_reducible refine eload17L rk_tr Etr_0 ?_ ?_); (focus rfl); rw [HT.out])
    | ((with_reducible refine eload17L rk_tr Etr_1 ?_ ?_); (focus rfl); rw [HU.out])
    | (go_at_call 18; (with_reducible refine (CX.out _).mono ?_); rintro _ W1 ⟨rfl, B⟩; replace BB := bon BB (bon B (box_below W1 #[.int .i64 x0, .int .i64 x1, .int .i64 x2] 35)); replace Etr_0 := rangeAt_on Etr_0 (bon B (box_below W1 #[.int .i64 x0, .int .i64 x1, .int .i64 x2] 35)); replace Etr_1 := rangeAt_on Etr_1 (bon B (box_below W1 #[.int .i64 x0, .int .i64 x1, .int .i64 x2] 35)); replace c0 := cell_below (bon B (box_below W1 #[.int .i64 x0, .int .i64 x1, .int .i64 x2] 35)) c0; replace c1 := cell_below (bon B (box_below W1 #[.int .i64 x0, .int .i64 x1, .int .i64 x2] 35)) c1; have g0 := box_cell W1 #[.int .i64 x0, .int .i64 x1, .int .i64 x2] 35 0 _ rfl; have g1 := box_cell W1 #[.int .i64 x0, .int .i64 x1, .int .i64 x2] 35 1 _ rfl; have g2 := box_cell W1 #[.int .i64 x0, .int .i64 x1, .int .i64 x2] 35 2 _ rfl; clear B)
    | (go_at_call 18; (with_reducible refine (CY.out _).mono ?_); rintro _ W2 ⟨rfl, B⟩; replace BB := bon BB (bon B (box_below W2 #[.int .i64 x1, .int .i64 x2, .int .i64 x0] 35)); replace Etr_0 := rangeAt_on Etr_0 (bon B (box_below W2 #[.int .i64 x1, .int .i64 x2, .int .i64 x0] 35)); replace Etr_1 := rangeAt_on Etr_1 (bon B (box_below W2 #[.int .i64 x1, .int .i64 x2, .int .i64 x0] 35)); replace c0 := cell_below (bon B (box_below W2 #[.int .i64 x1, .int .i64 x2, .int .i64 x0] 35)) c0; replace c1 := cell_below (bon B (box_below W2 #[.int .i64 x1, .int .i64 x2, .int .i64 x0] 35)) c1; replace g0 := cell_below (bon B (box_below W2 #[.int .i64 x1, .int .i64 x2, .int .i64 x0] 35)) g0; replace g1 := cell_below (bon B (box_below W2 #[.int .i64 x1, .int .i64 x2, .int .i64 x0] 35)) g1; replace g2 := cell_below (bon B (box_below W2 #[.int .i64 x1, .int .i64 x2, .int .i64 x0] 35)) g2; have k0 := box_cell W2 #[.int .i64 x1, .int .i64 x2, .int .i64 x0] 35 0 _ rfl; have k1 := box_cell W2 #[.int .i64 x1, .int .i64 x2, .int .i64 x0] 35 1 _ rfl; have k2 := box_cell W2 #[.int .i64 x1, .int .i64 x2, .int .i64 x0] 35 2 _ rfl; clear B)
    | (go_at_call 20; (with_reducible refine (CB.out _).mono ?_); rintro _ W3 ⟨rfl, B⟩; replace BB := bon BB B; replace Etr_0 := rangeAt_on Etr_0 (B); replace Etr_1 := rangeAt_on Etr_1 (B); replace c0 := cell_below (B) c0; replace c1 := cell_below (B) c1; replace g0 := cell_below (B) g0; replace g1 := cell_below (B) g1; replace g2 := cell_below (B) g2; replace k0 := cell_below (B) k0; replace k1 := cell_below (B) k1; replace k2 := cell_below (B) k2; clear B)
    | (go_at_call 20; (with_reducible refine (CD.out _).mono ?_); rintro _ W4 ⟨rfl, B⟩; replace BB := bon BB B; replace Etr_0 := rangeAt_on Etr_0 (B); replace Etr_1 := rangeAt_on Etr_1 (B); replace c0 := cell_below (B) c0; replace c1 := cell_below (B) c1; replace g0 := cell_below (B) g0; replace g1 := cell_below (B) g1; replace g2 := cell_below (B) g2; replace k0 := cell_below (B) k0; replace k1 := cell_below (B) k1; replace k2 := cell_below (B) k2; clear B))
  have k_c0 := cell_regrown c0
  have k_c1 := cell_regrown c1
  have k_g0 := cell_regrown g0
  have k_g1 := cell_regrown g1
  have k_g2 := cell_regrown g2
  have k_k0 := cell_regrown k0
  have k_k1 := cell_regrown k1
  have k_k2 := cell_regrown k2
  refine wp_region_quiet_below (by kernel_rfl) (by kernel_rfl) ?_
  repeat (first | ((try simp only [List.getElem_toArray, List.getElem_cons_succ, List.getElem_cons_zero]); go_big_quiet_want; refine quiet_eloadT _ _ rfl rk_tr rfl (fun W hW => rangeAt_on Etr_0 (below_regrown' hW)) HT.out rfl ?_; go_simp; go_big_quiet_on) | ((try simp only [List.getElem_toArray, List.getElem_cons_succ, List.getElem_cons_zero]); go_big_quiet_want; refine quiet_eloadT _ _ rfl rk_tr rfl (fun W hW => rangeAt_on Etr_1 (below_regrown' hW)) HU.out rfl ?_; go_simp; go_big_quiet_on) | ((try simp only [List.getElem_toArray, List.getElem_cons_succ, List.getElem_cons_zero]); go_big_quiet_want; refine quiet_eload _ _ rfl rk_tr rfl (fun W hW => rangeAt_on Etr_0 (below_regrown' hW)) rfl ?_; go_simp; go_big_quiet_on) | ((try simp only [List.getElem_toArray, List.getElem_cons_succ, List.getElem_cons_zero]); go_big_quiet_want; refine quiet_eload _ _ rfl rk_tr rfl (fun W hW => rangeAt_on Etr_1 (below_regrown' hW)) rfl ?_; go_simp; go_big_quiet_on) | ((try simp only [List.getElem_toArray, List.getElem_cons_succ, List.getElem_cons_zero]); go_big_quiet_step ((first | (go_at_call 22; with_reducible exact Calls.regrown_of (CV.out _)) | (go_at_call 22; with_reducible exact Calls.regrown_of (CW.out _)) | (go_at_call 24; with_reducible exact Calls.regrown_of (CC.out _)) | (go_at_call 24; with_reducible exact Calls.regrown_of (CE.out _))))) | ((try simp only [List.getElem_toArray, List.getElem_cons_succ, List.getElem_cons_zero]); quiet_step ((first | (go_at_call 22; with_reducible exact Calls.regrown_of (CV.out _)) | (go_at_call 22; with_reducible exact Calls.regrown_of (CW.out _)) | (go_at_call 24; with_reducible exact Calls.regrown_of (CC.out _)) | (go_at_call 24; with_reducible exact Calls.regrown_of (CE.out _))))))
  refine wpQuiet_nil ?_
  intro W9 hw'
  have B9 := below_regrown' hw'
  clear hw' k_c0 k_c1 k_g0 k_g1 k_g2 k_k0 k_k1 k_k2
  replace Etr_0 := rangeAt_on Etr_0 (B9)
  replace Etr_1 := rangeAt_on Etr_1 (B9)
  replace c0 := cell_below (B9) c0
  replace c1 := cell_below (B9) c1
  replace g0 := cell_below (B9) g0
  replace g1 := cell_below (B9) g1
  replace g2 := cell_below (B9) g2
  replace k0 := cell_below (B9) k0
  replace k1 := cell_below (B9) k1
  replace k2 := cell_below (B9) k2
  replace BB := bon BB B9
  clear B9
  clear CX CY CB CD CV CW CE g0 g1 g2 k0 k1 k2 Etr_1 EQ
  go_wp2_with fail
  have k_c0 := cell_regrown c0
  have k_c1 := cell_regrown c1
  refine wp_region_quiet_below (by kernel_rfl) (by kernel_rfl) ?_
  repeat (first | ((try simp only [List.getElem_toArray, List.getElem_cons_succ, List.getElem_cons_zero]); go_big_quiet_want; refine quiet_eload _ _ rfl rk_tr rfl (fun W hW => rangeAt_on Etr_0 (below_regrown' hW)) rfl ?_; go_simp; go_big_quiet_on) | ((try simp only [List.getElem_toArray, List.getElem_cons_succ, List.getElem_cons_zero]); go_big_quiet_step ((first | (go_at_call 12; with_reducible exact Calls.regrown_of (CL.out _)) | (go_at_call 12; with_reducible exact Calls.regrown_of (CM.out _))))) | ((try simp only [List.getElem_toArray, List.getElem_cons_succ, List.getElem_cons_zero]); quiet_step ((first | (go_at_call 12; with_reducible exact Calls.regrown_of (CL.out _)) | (go_at_call 12; with_reducible exact Calls.regrown_of (CM.out _))))))
  refine wpQuiet_nil ?_
  intro W9 hw'
  have B9 := below_regrown' hw'
  clear hw' k_c0 k_c1
  replace Etr_0 := rangeAt_on Etr_0 (B9)
  replace c0 := cell_below (B9) c0
  replace c1 := cell_below (B9) c1
  replace BB := bon BB B9
  clear B9
  clear CL CM
  cases cv
  · clear HI
    go_wp2_with (first
    | ((with_reducible refine eload17L rk_tr Etr_0 ?_ ?_); (focus rfl); rw [HT.out])
    | (go_at_call 24; (with_reducible refine (CC.out _).mono ?_); rintro _ W5 ⟨rfl, B⟩; replace BB := bon BB B; replace Etr_0 := rangeAt_on Etr_0 (B); clear B)
    | (go_at_call 13; (with_reducible refine (example34_b _).mono ?_); rintro _ W6 ⟨rfl, B⟩; replace BB := bon BB B; skip; clear B))
    go_ret
    exact ⟨rfl, BB⟩
  · obtain ⟨h0, h1, h2, h3⟩ := HI.out rfl
    clear HI
    have d0 : decide (l0 ≤ X) = true := decide_eq_true h0
    have d1 : decide (X ≤ l2) = true := decide_eq_true h1
    have d2 : decide (l1 ≤ Y) = true := decide_eq_true h2
    have d3 : decide (Y ≤ l3) = true := decide_eq_true h3
    go_wp2_with (first
    | ((with_reducible refine eload17L rk_tr Etr_0 ?_ ?_); (focus rfl); rw [HT.out])
    | (go_at_call 24; (with_reducible refine (CC.out _).mono ?_); rintro _ W5 ⟨rfl, B⟩; replace BB := bon BB B; replace Etr_0 := rangeAt_on Etr_0 (B); clear B)
    | (go_at_call 13; (with_reducible refine (example34_b _).mono ?_); rintro _ W6 ⟨rfl, B⟩; replace BB := bon BB B; skip; clear B))
    go_ret
    exact ⟨rfl, BB⟩

theorem bds_turn (a b c : SV) : bds b c a = bds a b c := by
  unfold bds
  rw [trv_turn]
  have h : ∀ x y z : Int, min3 y z x = min3 x y z ∧ max3 y z x = max3 x y z := fun x y z => by unfold min3 max3; omega
  rw [(h a.x b.x c.x).1, (h a.x b.x c.x).2, (h a.y b.y c.y).1, (h a.y b.y c.y).2]

theorem wtv_turn (a b c : SV) (px py : Int) : wtv b c a px py = ((wtv a b c px py).2.1, (wtv a b c px py).2.2, (wtv a b c px py).1) := by
  unfold wtv
  rw [trv_turn]
  split <;> rfl

theorem rot_walk (a b c : SV) (p : Int) (f : Bool) (px py : Int) (w : World) : Calls Try.prog 9 #[.agg #[.int .i64 a.x, .int .i64 a.y, .int .i64 a.z, .int .i64 a.q, .slice a.A a.n a.c, .int .i64 b.x, .int .i64 b.y, .int .i64 b.z, .int .i64 b.q, .slice b.A b.n b.c, .int .i64 c.x, .int .i64 c.y, .int .i64 c.z, .int .i64 c.q, .slice c.A c.n c.c, .int .i64 p, .bool f], .agg #[.int .i64 px, .int .i64 py]] w fun e w' => e = .returned (.bool true) ∧ Below w.heap.size w w' := by
  have hs : ∀ t : Int × Int × Int, wres (t.2.1, t.2.2, t.1) = .tuple #[.agg #[.int .i64 t.2.1, .int .i64 t.2.2, .int .i64 t.1], .int .i64 (t.1 + t.2.1 + t.2.2)] := fun t => by
    unfold wres
    rw [show t.2.1 + t.2.2 + t.1 = t.1 + t.2.1 + t.2.2 by omega]
  cases hv : trv a b c
  · exact rot_case a b c p f px py _ _ _ _ 0 0 0 0 _ _ false _ rfl (by rw [wtv_turn]; exact hs _) hv (by rw [trv_turn]; exact hv) rfl (cov_turn a b c px py) (by unfold bds; rw [hv]; rfl) (by rw [bds_turn]; unfold bds; rw [hv]; rfl) rfl rfl (fun h => by have := cov_valid _ _ _ _ _ h; rw [hv] at this; cases this) w
  · exact rot_case a b c p f px py _ _ _ _ _ _ _ _ _ _ true _ rfl (by rw [wtv_turn]; exact hs _) hv (by rw [trv_turn]; exact hv) rfl (cov_turn a b c px py) (by unfold bds; rw [hv]; rfl) (by rw [bds_turn]; unfold bds; rw [hv]; rfl) rfl rfl (fun h => by have := cov_in h; omega) w

end Go.Proofs.Ytmmhnhjipbecdaa
