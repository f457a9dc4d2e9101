/- One color in every level: MipmapConstant's walk. -/
import Derived.Test.YtcjlgfadjedgbaaL9
namespace Go.Proofs.Ytcjlgfadjedgbaa
open Go.RowKit Go.Sort Go.ChangeShapes Go.WideShapes

theorem rept_add (b : List Int) (i j : Nat) : rept b (i + j) = rept b i ++ rept b j := by
  induction j with
  | zero => simp [rept]
  | succ j ih => rw [← Nat.add_assoc, rept, rept, ih, List.append_assoc]
theorem rept_part (b : List Int) (k i : Nat) (h : i < k) : part (rept b k) (i * b.length) b.length = b := by
  obtain ⟨j, rfl⟩ : ∃ j, k = i + 1 + j := ⟨k - i - 1, by omega⟩
  unfold part
  rw [rept_add, rept, List.append_assoc, List.drop_left' (by rw [rept_len]), List.take_left' rfl]

/-- Every texel has these bytes. -/
def Uni (m : Im) (e : List Int) : Prop := m.ok ∧ m.l = rept e (m.w * m.h).toNat ∧ e.length = nsz m.f

theorem uni_get {m : Im} {e : List Int} (h : Uni m e) {u v : Int} (k : m.ins u v) (i : Nat) : m.get u v i = dec m.f e i := by
  obtain ⟨ho, hl, he⟩ := h
  unfold Im.get
  rw [if_pos k]
  unfold Im.txl
  obtain ⟨p, hp, hpl, hpe⟩ := Im.off_in k
  rw [hp, Int.toNat_natCast]
  have hx := k.2.1
  have hy := k.2.2
  have h0 : 0 ≤ v * m.w := Int.mul_nonneg hy.1 (by omega)
  have h2 : (v + 1) * m.w ≤ m.h * m.w := Int.mul_le_mul_of_nonneg_right (by omega) (by omega)
  rw [Int.add_mul, Int.one_mul] at h2
  have hi : v * m.w + u < m.w * m.h := by rw [Int.mul_comm m.w m.h]; omega
  have e2 : p = (v * m.w + u).toNat * e.length := by
    rw [he]
    have : ((((v * m.w + u).toNat * nsz m.f : Nat)) : Int) = (v * m.w + u) * nsz m.f := by rw [Int.natCast_mul, Int.toNat_of_nonneg (by omega)]
    omega
  have := rept_part e (m.w * m.h).toNat (v * m.w + u).toNat (by omega)
  rw [← e2, he] at this
  rw [hl, this]

theorem rda_four {v : Int} (h : -536870911 ≤ v ∧ v ≤ 536870911) : rda (v + v + v + v) 4 = v := by
  unfold rda
  rw [if_pos (by omega), show v + v + v + v = v * 4 by omega]
  exact rdv_mul_any v 4 (by omega)

theorem uni_red {m : Im} {c0 c1 c2 c3 : Int} (h : Uni m (enc m.f c0 c1 c2 c3)) : Uni m.red (enc m.f c0 c1 c2 c3) := by
  by_cases h1 : m.w = 1 ∧ m.h = 1
  · rw [red_no fun k => k.2 h1]; exact h
  · have hro := red_ok h.1
    have hrf := red_f m
    refine ⟨hro, ?_, by rw [hrf]; exact h.2.2⟩
    rw [red_yes h.1 h1]
    obtain ⟨hw, hh⟩ := And.intro h.1.2.1 h.1.2.2.1
    have hsw := hfs_side (n := m.w) hw 1
    have hsh := hfs_side (n := m.h) hh 1
    have e1 : hfs m.w 1 = if m.w / 2 < 1 then 1 else m.w / 2 := rfl
    have e2 : hfs m.h 1 = if m.h / 2 < 1 then 1 else m.h / 2 := rfl
    obtain ⟨W, hW⟩ : ∃ W : Nat, hfs m.w 1 = W := ⟨(hfs m.w 1).toNat, by have := hsw.1; omega⟩
    obtain ⟨H, hH⟩ : ∃ H : Nat, hfs m.h 1 = H := ⟨(hfs m.h 1).toNat, by have := hsh.1; omega⟩
    simp only
    rw [hW] at e1 ⊢
    rw [hH] at e2 ⊢
    have hW1 : 1 ≤ W := by rw [hW] at hsw; have := hsw.1; omega
    rw [Int.toNat_natCast, Int.toNat_natCast, ← Int.natCast_mul, Int.toNat_natCast, Nat.mul_comm W H]
    have ht : ∀ X Y : Nat, X < W → Y < H → rtx m X Y = enc m.f c0 c1 c2 c3 := fun X Y hX hY => by
      have hx : 2 * (X : Int) ≤ m.w - 1 := by split at e1 <;> omega
      have hy : 2 * (Y : Int) ≤ m.h - 1 := by split at e2 <;> omega
      have hr : 0 ≤ (if m.w - 1 < 2 * (X : Int) + 1 then m.w - 1 else 2 * (X : Int) + 1) ∧ (if m.w - 1 < 2 * (X : Int) + 1 then m.w - 1 else 2 * (X : Int) + 1) < m.w := by split <;> omega
      have hs : 0 ≤ (if m.h - 1 < 2 * (Y : Int) + 1 then m.h - 1 else 2 * (Y : Int) + 1) ∧ (if m.h - 1 < 2 * (Y : Int) + 1 then m.h - 1 else 2 * (Y : Int) + 1) < m.h := by split <;> omega
      have ha : ∀ i, avg m X Y i = dec m.f (enc m.f c0 c1 c2 c3) i := fun i => by
        unfold avg gt4
        rw [uni_get h ⟨h.1, by omega, by omega⟩, uni_get h ⟨h.1, hr, by omega⟩, uni_get h ⟨h.1, by omega, hs⟩, uni_get h ⟨h.1, hr, hs⟩]
        exact rda_four (dec_bd _ _ _)
      unfold rtx
      rw [ha, ha, ha, ha]
      exact enc_idem _ _ _ _ _
    have key : ∀ k, k ≤ H * W → rpre m W k = rept (enc m.f c0 c1 c2 c3) k := by
      intro k
      induction k with
      | zero => intro _; rfl
      | succ k ih =>
        intro hk
        rw [rpre, rept, ih (by omega), ht _ _ (Nat.mod_lt _ hW1) (Nat.div_lt_of_lt_mul (by rw [Nat.mul_comm]; omega))]
    exact key _ (Nat.le_refl _)

theorem uni_chn {m : Im} {c0 c1 c2 c3 : Int} (h : Uni m (enc m.f c0 c1 c2 c3)) (k : Nat) : Uni (chn m k) (enc m.f c0 c1 c2 c3) := by
  induction k with
  | zero => exact h
  | succ k ih =>
    rw [← chn_f m k] at ih ⊢
    exact uni_red ih
theorem uni_fill {m : Im} {c0 c1 c2 c3 : Int} (h : Uni m (enc m.f c0 c1 c2 c3)) : m.fill c0 c1 c2 c3 = m := by
  unfold Im.fill
  rw [if_pos h.1, ← h.2.1]
theorem fill_uni {m : Im} (h : m.ok) (c0 c1 c2 c3 : Int) : Uni (m.fill c0 c1 c2 c3) (enc m.f c0 c1 c2 c3) := by
  unfold Im.fill
  rw [if_pos h]
  obtain ⟨h1, h2, h3, h4⟩ := h
  refine ⟨⟨h1, h2, h3, ?_⟩, rfl, enc_len _ _ _ _ _⟩
  show (((rept (enc m.f c0 c1 c2 c3) (m.w * m.h).toNat).length : Nat) : Int) = m.w * m.h * nsz m.f
  have hp : 0 ≤ m.w * m.h := Int.mul_nonneg (by omega) (by omega)
  rw [rept_len, enc_len, Int.natCast_mul, Int.toNat_of_nonneg hp]
/-- What the chain of a filled image holds. -/
theorem chain_uni {m : Im} (h : m.ok) (c0 c1 c2 c3 : Int) : ∀ t ∈ chain (m.fill c0 c1 c2 c3), t.ok ∧ t.fill c0 c1 c2 c3 = t := by
  intro t ht
  unfold chain at ht
  obtain ⟨k, _, rfl⟩ := List.mem_map.1 ht
  have hf : (m.fill c0 c1 c2 c3).f = m.f := by unfold Im.fill; split <;> rfl
  have hu := fill_uni h c0 c1 c2 c3
  rw [← hf] at hu
  have hk := uni_chn hu k
  exact ⟨hk.1, uni_fill (by rw [chn_f]; exact hk)⟩

set_option maxRecDepth 100000 in
set_option maxHeartbeats 4000000 in
theorem constant_walk (f a b x0 x1 x2 x3 : Int) (w : World) :
    Calls Try.prog 8 #[.int .i64 f, .agg #[.int .i64 a, .int .i64 b], .agg #[.int .i64 x0, .int .i64 x1, .int .i64 x2, .int .i64 x3]] w fun e w' => e = .returned (.bool true) ∧ Below w.heap.size w w' := by
  have b0 := box_below w #[.int .i64 a, .int .i64 b] 53
  have s0 := box_cell w #[.int .i64 a, .int .i64 b] 53 0 (.int .i64 a) rfl
  have s1 := box_cell w #[.int .i64 a, .int .i64 b] 53 1 (.int .i64 b) rfl
  have b1 := box_below (w.alloc (.cells #[.int .i64 a, .int .i64 b] 53)) #[.int .i64 x0, .int .i64 x1, .int .i64 x2, .int .i64 x3] 44
  have z1 : (w.alloc (.cells #[.int .i64 a, .int .i64 b] 53)).heap.size = w.heap.size + 1 := by simp
  have V := (VBox.made (w.alloc (.cells #[.int .i64 a, .int .i64 b] 53)) x0 x1 x2 x3 44).1
  rw [z1] at V
  replace s0 := cell_below b1 s0
  replace s1 := cell_below b1 s1
  have BB := bon b0 b1
  clear b0 b1 z1
  have cn := fun W => rinew_b f a b W
  unfold GivesIOE at cn
  by_cases hc : nsz f ≠ 0 ∧ (1 ≤ a ∧ a ≤ 64) ∧ (1 ≤ b ∧ b ≤ 64)
  · obtain ⟨hc1, hc2⟩ := hc
    have hn : newI f a b = (⟨f, a, b, List.replicate (a * b * nsz f).toNat 0⟩, 0) := by unfold newI; rw [if_neg hc1, if_pos hc2]
    have hok : (Im.mk f a b (List.replicate (a * b * nsz f).toNat 0)).ok := by
      refine ⟨hc1, hc2.1, hc2.2, ?_⟩
      simp only [List.length_replicate]
      exact Int.toNat_of_nonneg (Int.mul_nonneg (Int.mul_nonneg (by omega) (by omega)) (by omega))
    have hcu := chain_uni hok x0 x1 x2 x3
    have hfo := (fill_uni hok x0 x1 x2 x3).1
    have hfi : (Im.mk f a b (List.replicate (a * b * nsz f).toNat 0)).fill x0 x1 x2 x3 = ⟨f, a, b, rept (enc f x0 x1 x2 x3) (a * b).toNat⟩ := by unfold Im.fill; rw [if_pos hok]
    have hlen := ok_len hok
    have hlen2 := ok_len hfo
    rw [hn] at cn
    rw [hfi] at hcu hfo hlen2
    have cf := fun A n c W R hn => rifill_b f a b A n c (List.replicate (a * b * nsz f).toNat 0) x0 x1 x2 x3 W R hn
    unfold GivesIO at cf
    simp only [hfi] at cf
    simp only at cn hlen hlen2
    obtain ⟨S, hS⟩ : ∃ S, rept (enc f x0 x1 x2 x3) (a * b).toNat = S := ⟨_, rfl⟩
    obtain ⟨L0, hL0⟩ : ∃ S, List.replicate (a * b * nsz f).toNat (0 : Int) = S := ⟨_, rfl⟩
    rw [hS] at hcu hfo hlen2
    rw [hL0] at hlen
    simp only [hL0] at cn
    simp only [hS, hL0] at cf
    have ch := fun A n c W R hn => pchain_b f a b A n c S W R hn
    unfold GivesT at ch
    simp only [if_pos hfo] at ch
    have cl := fun W => levels_b a b W
    have hcl : (chain (Im.mk f a b S)).length = nlv a b := by unfold chain; simp
    have h7 := nlv_le a b
    obtain ⟨CH, hCH⟩ : ∃ C, chain (Im.mk f a b S) = C := ⟨_, rfl⟩
    obtain ⟨N, hN⟩ : ∃ N, nlv a b = N := ⟨_, rfl⟩
    rw [hCH] at hcu hcl
    simp only [hCH] at ch
    rw [hN] at hcl h7
    simp only [hN] at cl
    have CN := Lib.hid cn
    have CF := Lib.hid cf
    have CC := Lib.hid ch
    have CL := Lib.hid cl
    have HCU := Lib.hid hcu
    have hnn : ((N : Int) != (N : Int)) = false := by simp
    clear cn cf ch cl hcu hS hL0 hCH hN hn hfi hc1 hc2 hok hfo
    obtain ⟨v0, v1, v2, v3⟩ := id V
    go_enter Try.func8, Try.ntmps8
    go_wp2_with (first
      | (go_at_call 32; (with_reducible refine (CN.out _).mono ?_); rintro _ W1 ⟨A1, n1, c1, rfl, own1, B⟩; (replace BB := bon BB B; replace s0 := cell_below B s0; replace s1 := cell_below B s1; replace v0 := cell_below B v0; replace v1 := cell_below B v1; replace v2 := cell_below B v2; replace v3 := cell_below B v3); replace V := V.on B; clear B)
      | (refine wpList_iset rfl _ _ _ rfl rfl rfl (IBox.made W1 0 0 0 none 0 0 25) (by kernel_rfl) ?_; intro W2 B2 E2 _ _; have B := (box_below W1 #[.int .i64 0, .int .i64 0, .int .i64 0, .slice none 0 0] 25).trans B2; (replace BB := bon BB B; replace s0 := cell_below B s0; replace s1 := cell_below B s1; replace v0 := cell_below B v0; replace v1 := cell_below B v1; replace v2 := cell_below B v2; replace v3 := cell_below B v3); replace V := V.on B; replace own1 := own1.on B; clear B B2; have D2 := E2.1; clear E2)
      | (refine wpList_iload rfl _ _ rfl imgT D2 rfl ?_)
      | (go_at_call 33; (with_reducible refine (CF.out _ _ _ _ own1.rd (by have := own1.len; omega)).mono ?_); rintro _ W3 ⟨A3, n3, c3, rfl, own3, B⟩; (replace BB := bon BB B; replace s0 := cell_below B s0; replace s1 := cell_below B s1; replace v0 := cell_below B v0; replace v1 := cell_below B v1; replace v2 := cell_below B v2; replace v3 := cell_below B v3); replace V := V.on B; clear B own1 D2)
      | (go_at_call 10; (with_reducible refine (CC.out _ _ _ _ own3.rd (by have := own3.len; omega)).mono ?_); rintro _ W4 ⟨A4, n4, c4, ts, rfl, hc4, R4, hts, B⟩; (replace BB := bon BB B; replace s0 := cell_below B s0; replace s1 := cell_below B s1; replace v0 := cell_below B v0; replace v1 := cell_below B v1; replace v2 := cell_below B v2; replace v3 := cell_below B v3); replace V := V.on B; clear B own3)
      | (refine wpList_txset rfl _ _ _ rfl rfl rfl (XBox.made W4 (.slice none 0 0) 29) (by kernel_rfl) ?_; intro W5 X5 B5 _; have B := (box_below W4 #[.slice none 0 0] 29).trans B5; (replace BB := bon BB B; replace s0 := cell_below B s0; replace s1 := cell_below B s1; replace v0 := cell_below B v0; replace v1 := cell_below B v1; replace v2 := cell_below B v2; replace v3 := cell_below B v3); replace V := V.on B; replace R4 := R4.on B; clear B B5; have t0 := X5.1; clear X5))
    have hnN : n4 = N := by rw [← R4.len, ← hcl, ← hts, List.length_map]
    subst hnN
    obtain ⟨bT, hbT⟩ : ∃ b, W4.heap.size = b := ⟨_, rfl⟩
    rw [hbT] at t0 ⊢
    have HTS := Lib.hid hts
    clear hbT hts hcl
    have k_s0 := cell_regrown s0
    have k_s1 := cell_regrown s1
    have k_t0 := cell_regrown t0
    refine wp_region_quiet_below (by kernel_rfl) (by kernel_rfl) ?_
    repeat (first | go_big_quiet_step ((first | (go_at_call 18; exact Calls.regrown_of (CL.out _)))) | quiet_step ((first | (go_at_call 18; exact Calls.regrown_of (CL.out _)))))
    refine wpQuiet_nil ?_
    intro W hw'
    have B := below_regrown' hw'
    clear hw' k_s0 k_s1 k_t0
    replace BB := bon BB B
    replace s0 := cell_below B s0
    replace s1 := cell_below B s1
    replace t0 := cell_below B t0
    replace V := V.on B
    have RH := Lib.hid (R4.on B)
    clear B R4 s0 s1 v0 v1 v2 v3
    go_wp2
    clear hnn CL CN CF CC
    go_loopw [11] (fun i wr => ∃ j : Nat, j ≤ n4 ∧ i = .int .i64 j ∧ wr.cell? ⟨bT, 0, none⟩ = some (.slice A4 n4 c4) ∧ VecAt wr (w.heap.size + 1) x0 x1 x2 x3 ∧ RdI wr wr.heap.size A4 n4 ts ∧ Below w.heap.size w wr) (fun i _ => n4 - (intOf i).toNat)
    case atStart => exact ⟨0, by omega, rfl, t0, V, RH.out, BB⟩
    case round =>
      clear t0 V RH BB
      obtain ⟨j, hj, rfl, t0, V, RJ0, BB⟩ := hrel
      have RJ := Lib.hid RJ0
      clear RJ0
      by_cases hlt : j < n4
      · obtain ⟨b0, off, t, rfl, _, TA, TR0, ht⟩ := RJ.out.at_ hlt
        obtain ⟨g1, g2⟩ := HCU.out t.m (by rw [← HTS.out]; exact List.mem_map.2 ⟨t, List.mem_of_getElem? ht, rfl⟩)
        have hl := ok_len g1
        rw [TR0.1.len] at hl
        have cft := fun W R => rifill_b t.m.f t.m.w t.m.h t.A t.n t.c t.m.l x0 x1 x2 x3 W R (by omega)
        rw [show (Im.mk t.m.f t.m.w t.m.h t.m.l).fill x0 x1 x2 x3 = t.m from g2] at cft
        unfold GivesIO at cft
        have cvt := fun W => rivalid_b t.m.f t.m.w t.m.h t.A t.n t.c t.m.l W TR0.1.len
        rw [decide_eq_true (show (Im.mk t.m.f t.m.w t.m.h t.m.l).ok from g1)] at cvt
        have CFT := Lib.hid cft
        have CVT := Lib.hid cvt
        have CQ := Lib.hid (fun A2 n2 c2 W R R2 => riequal_b t.m.f t.m.w t.m.h t.A A2 t.n n2 t.c c2 t.m.l W R R2)
        have TR := TR0.1
        clear cft cvt g1 g2 ht hl TR0
        go_wp2
        refine wp_region_treeC (fun U => Below wr.heap.size wr U) (.read 0 (.read 1 (.read 2 (.read 3 (.read 4 (.read 5 (.read 6 (.read 7 (.read 8 (.read 9 (.read 10 (.fork1 11 (.fork1 12 (.read 13 (.read 14 (.read 15 (.read 16 (.read 17 (.read 18 (.read 19 (.fork1 20 (.read 21 (.read 22 .nil))))))))))))))))))))))) (by kernel_rfl) (by kernel_rfl) (fun U hB => hB) ?_
        intro U0 F
        refine tree_read rfl ?_
        refine wpQuiet_step (fun K hK => ?_)
        rw [if_pos (by rfl)]
        refine quiet_val (.pointer (some ⟨bT, 0, none⟩)) (fun U hU => by simp [execOp, go_sem]) ?_
        go_simp
        refine hK _ ?_
        clear hK K
        refine wpQuiet_nil ?_
        refine tree_read rfl ?_
        refine wpQuiet_step (fun K hK => ?_)
        rw [if_pos (by rfl)]
        refine quiet_val (.slice (some ⟨b0, off, none⟩) n4 c4) (fun U hU => by have h0 := cell_below hU t0; simp [execOp, go_sem, h0]) ?_
        go_simp
        refine hK _ ?_
        clear hK K
        refine wpQuiet_nil ?_
        refine tree_read rfl ?_
        refine wpQuiet_step (fun K hK => ?_)
        rw [if_pos (by rfl)]
        first | refine quiet_move _ rfl ?_ | refine quiet_assign _ rfl ?_
        go_simp
        refine hK _ ?_
        clear hK K
        refine wpQuiet_nil ?_
        refine tree_read rfl ?_
        refine wpQuiet_step (fun K hK => ?_)
        rw [if_pos (by rfl)]
        refine quiet_val (.pointer (some ⟨b0, off + j * 4, none⟩)) (fun U hU => by simp [execOp, go_sem, hlt]) ?_
        go_simp
        refine hK _ ?_
        clear hK K
        refine wpQuiet_nil ?_
        refine tree_read rfl ?_
        refine wpQuiet_step (fun K hK => ?_)
        rw [if_pos (by rfl)]
        refine quiet_tload _ _ rfl imgType (fun U hU => TA.on hU) rfl ?_
        go_simp
        refine hK _ ?_
        clear hK K
        refine wpQuiet_nil ?_
        refine tree_read rfl ?_
        refine wpQuiet_step (fun K hK => ?_)
        rw [if_pos (by rfl)]
        refine quiet_val (.pointer (some ⟨bT, 0, none⟩)) (fun U hU => by simp [execOp, go_sem]) ?_
        go_simp
        refine hK _ ?_
        clear hK K
        refine wpQuiet_nil ?_
        refine tree_read rfl ?_
        refine wpQuiet_step (fun K hK => ?_)
        rw [if_pos (by rfl)]
        refine quiet_val (.slice (some ⟨b0, off, none⟩) n4 c4) (fun U hU => by have h0 := cell_below hU t0; simp [execOp, go_sem, h0]) ?_
        go_simp
        refine hK _ ?_
        clear hK K
        refine wpQuiet_nil ?_
        refine tree_read rfl ?_
        refine wpQuiet_step (fun K hK => ?_)
        rw [if_pos (by rfl)]
        first | refine quiet_move _ rfl ?_ | refine quiet_assign _ rfl ?_
        go_simp
        refine hK _ ?_
        clear hK K
        refine wpQuiet_nil ?_
        refine tree_read rfl ?_
        refine wpQuiet_step (fun K hK => ?_)
        rw [if_pos (by rfl)]
        refine quiet_val (.pointer (some ⟨b0, off + j * 4, none⟩)) (fun U hU => by simp [execOp, go_sem, hlt]) ?_
        go_simp
        refine hK _ ?_
        clear hK K
        refine wpQuiet_nil ?_
        refine tree_read rfl ?_
        refine wpQuiet_step (fun K hK => ?_)
        rw [if_pos (by rfl)]
        refine quiet_tload _ _ rfl imgType (fun U hU => TA.on hU) rfl ?_
        go_simp
        refine hK _ ?_
        clear hK K
        refine wpQuiet_nil ?_
        refine tree_read rfl ?_
        refine wpQuiet_step (fun K hK => ?_)
        rw [if_pos (by rfl)]
        refine quiet_vload _ _ rfl vecT (fun U hU => V.on hU) rfl ?_
        go_simp
        refine hK _ ?_
        clear hK K
        refine wpQuiet_nil ?_
        refine tree_one rfl ?_
        go_wp2_with (go_at_call 33; (refine (CFT.out _ (TR.on F)).mono ?_); rintro _ U1 ⟨A7, n7, c7, rfl, own7, B⟩)
        replace F := bon F B
        refine ⟨F, ?_⟩
        refine tree_one rfl ?_
        go_wp2_with (go_at_call 13; (refine (CQ.out _ _ _ _ (TR.on F) own7.rd).mono ?_); rintro _ U2 ⟨rfl, B⟩)
        replace F := bon F B
        refine ⟨F, ?_⟩
        refine tree_read rfl ?_
        refine wpQuiet_step (fun K hK => ?_)
        rw [if_pos (by rfl)]
        refine quiet_val (.bool false) (fun U hU => by simp [execOp, go_sem]) ?_
        go_simp
        refine hK _ ?_
        clear hK K
        refine wpQuiet_nil ?_
        refine tree_read rfl ?_
        refine wpQuiet_step (fun K hK => ?_)
        rw [if_pos (by rfl)]
        first | refine quiet_move _ rfl ?_ | refine quiet_assign _ rfl ?_
        go_simp
        refine hK _ ?_
        clear hK K
        refine wpQuiet_nil ?_
        refine tree_read rfl ?_
        refine wpQuiet_step (fun K hK => ?_)
        rw [if_pos (by rfl)]
        refine quiet_val (.pointer (some ⟨bT, 0, none⟩)) (fun U hU => by simp [execOp, go_sem]) ?_
        go_simp
        refine hK _ ?_
        clear hK K
        refine wpQuiet_nil ?_
        refine tree_read rfl ?_
        refine wpQuiet_step (fun K hK => ?_)
        rw [if_pos (by rfl)]
        refine quiet_val (.slice (some ⟨b0, off, none⟩) n4 c4) (fun U hU => by have h0 := cell_below hU t0; simp [execOp, go_sem, h0]) ?_
        go_simp
        refine hK _ ?_
        clear hK K
        refine wpQuiet_nil ?_
        refine tree_read rfl ?_
        refine wpQuiet_step (fun K hK => ?_)
        rw [if_pos (by rfl)]
        first | refine quiet_move _ rfl ?_ | refine quiet_assign _ rfl ?_
        go_simp
        refine hK _ ?_
        clear hK K
        refine wpQuiet_nil ?_
        refine tree_read rfl ?_
        refine wpQuiet_step (fun K hK => ?_)
        rw [if_pos (by rfl)]
        refine quiet_val (.pointer (some ⟨b0, off + j * 4, none⟩)) (fun U hU => by simp [execOp, go_sem, hlt]) ?_
        go_simp
        refine hK _ ?_
        clear hK K
        refine wpQuiet_nil ?_
        refine tree_read rfl ?_
        refine wpQuiet_step (fun K hK => ?_)
        rw [if_pos (by rfl)]
        refine quiet_tload _ _ rfl imgType (fun U hU => TA.on hU) rfl ?_
        go_simp
        refine hK _ ?_
        clear hK K
        refine wpQuiet_nil ?_
        refine tree_one rfl ?_
        go_wp2_with (go_at_call 20; (refine (CVT.out _).mono ?_); rintro _ U3 ⟨rfl, B⟩)
        replace F := bon F B
        refine ⟨F, ?_⟩
        refine tree_read rfl ?_
        refine wpQuiet_step (fun K hK => ?_)
        rw [if_pos (by rfl)]
        refine quiet_val (.bool false) (fun U hU => by simp [execOp, go_sem]) ?_
        go_simp
        refine hK _ ?_
        clear hK K
        refine wpQuiet_nil ?_
        refine tree_read rfl ?_
        refine wpQuiet_step (fun K hK => ?_)
        rw [if_pos (by rfl)]
        refine quiet_val (.bool false) (fun U hU => by simp [execOp, go_sem]) ?_
        go_simp
        refine hK _ ?_
        clear hK K
        refine wpQuiet_nil ?_
        refine tree_nil ?_
        go_wp2
        go_roundw
        case rel => exact ⟨j + 1, by omega, by go_num, cell_below F t0, V.on F, RJ.out.on F, bon BB F⟩
        case measure => simp [intOf]; omega
      · obtain rfl : j = n4 := by omega
        go_wp2_with (go_at_call 9; (refine (lexample_b _).mono ?_); rintro _ W9 ⟨rfl, B⟩; replace BB := bon BB B; clear B)
        go_ret
        exact ⟨rfl, BB⟩
  · obtain ⟨er, hn, her⟩ : ∃ er, newI f a b = (imZ, er) ∧ er ≠ 0 := by
      unfold newI
      by_cases h1 : nsz f = 0
      · exact ⟨14, by rw [if_pos h1], by decide⟩
      · exact ⟨15, by rw [if_neg h1, if_neg fun k => hc ⟨h1, k⟩], by decide⟩
    rw [hn] at cn
    simp only at cn
    have CN := Lib.hid cn
    have t1 : (er != 0) = true := by simp [her]
    clear cn hc hn her
    obtain ⟨v0, v1, v2, v3⟩ := id V
    go_enter Try.func8, Try.ntmps8
    go_wp2_with (first
      | (go_at_call 32; (with_reducible refine (CN.out _).mono ?_); rintro _ W1 ⟨A1, n1, c1, rfl, own1, B⟩; (replace BB := bon BB B; replace s0 := cell_below B s0; replace s1 := cell_below B s1); clear B)
      | (refine wpList_iset rfl _ _ _ rfl rfl rfl (IBox.made W1 0 0 0 none 0 0 25) (by kernel_rfl) ?_; intro W2 B2 E2 _ _; have B := (box_below W1 #[.int .i64 0, .int .i64 0, .int .i64 0, .slice none 0 0] 25).trans B2; (replace BB := bon BB B; replace s0 := cell_below B s0; replace s1 := cell_below B s1); clear B B2)
      | (go_at_call 9; (refine (lexample_b _).mono ?_); rintro _ W9 ⟨rfl, B⟩; replace BB := bon BB B; clear B))
    go_ret
    exact ⟨rfl, BB⟩

end Go.Proofs.Ytcjlgfadjedgbaa
