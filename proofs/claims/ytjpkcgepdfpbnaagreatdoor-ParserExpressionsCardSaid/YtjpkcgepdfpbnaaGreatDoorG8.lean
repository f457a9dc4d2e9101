/- What FormatInt, isInteger, ParseInt, padZeros of package format return. -/
import Derived.Test.YtjpkcgepdfpbnaaGreatDoorG5
namespace Go.Proofs.YtjpkcgepdfpbnaaGreatDoor
open Go.RowKit Go.Sort

/-- A decimal form of an int of any size. -/
def intB (l : List Int) : Bool := if l.head? = some 45 then natB l.tail && !decide (l.tail = [48]) else natB l

theorem isInteger_q (s : ByteArray) (w : World) (hs : s.size ≤ 9223372036854775807) :
    Calls Tryz.prog 160 #[.string s] w fun e w' => e = .returned (.bool (intB (strL s))) ∧ w = w' := by
  by_cases hn : (strL s).head? = some 45
  · have ht := tail_str s
    have hb : Hid (intB (strL s) = (natB (strL s).tail && !decide ((strL s).tail = [48]))) := Lib.hid (by unfold intB; rw [if_pos hn])
    obtain ⟨t, hte⟩ : ∃ t, s.extract 1 s.size = t := ⟨_, rfl⟩
    rw [hte] at ht
    have hts : t.size ≤ 9223372036854775807 := by rw [← hte, ByteArray.size_extract]; omega
    have c1 := fun W => cutPre_yes s t W hn ht
    have c2 := fun W => isNatural_q t W hts
    rw [ht] at c2
    have C1 := Lib.hid c1
    have HT := Lib.hid ht
    clear c1 hn ht hte hts
    cases hnat : natB (strL s).tail
    · rw [hnat] at c2 hb
      have C2 := Lib.hid c2
      clear c2 hnat
      go_enter Tryz.func160, Tryz.ntmps160
      go_wp2_with (first
        | (go_at_call 155; refine (C1.out _).mono ?_; rintro _ _ ⟨rfl, rfl⟩)
        | (go_at_call 157; refine (C2.out _).mono ?_; rintro _ _ ⟨rfl, rfl⟩))
      go_ret
      exact ⟨ret_bool' hb.out.symm, rfl⟩
    · rw [hnat] at c2 hb
      have C2 := Lib.hid c2
      clear c2 hnat
      by_cases h48 : t.toList = [48]
      · have h2 : Hid (intB (strL s) = false) := Lib.hid (by rw [hb.out, ← HT.out, (toList_48 t).1 h48]; rfl)
        go_enter Tryz.func160, Tryz.ntmps160
        go_wp2_with (first
          | (go_at_call 155; refine (C1.out _).mono ?_; rintro _ _ ⟨rfl, rfl⟩)
          | (go_at_call 157; refine (C2.out _).mono ?_; rintro _ _ ⟨rfl, rfl⟩))
        go_ret
        exact ⟨ret_bool' h2.out.symm, rfl⟩
      · have h2 : Hid (intB (strL s) = true) := Lib.hid (by rw [hb.out, ← HT.out, decide_eq_false (fun h => h48 ((toList_48 t).2 h))]; rfl)
        have h3 : (t.toList == [48]) = false := by simpa using h48
        go_enter Tryz.func160, Tryz.ntmps160
        go_wp2_with (first
          | (go_at_call 155; refine (C1.out _).mono ?_; rintro _ _ ⟨rfl, rfl⟩)
          | (go_at_call 157; refine (C2.out _).mono ?_; rintro _ _ ⟨rfl, rfl⟩))
        go_ret
        exact ⟨ret_bool' h2.out.symm, rfl⟩
  · have hb : Hid (intB (strL s) = natB (strL s)) := Lib.hid (by unfold intB; rw [if_neg hn])
    have c1 := fun W => cutPre_no s W hn
    have c2 := fun W => isNatural_q s W hs
    have C1 := Lib.hid c1
    clear c1 hn
    cases hnat : natB (strL s)
    all_goals
      rw [hnat] at c2 hb
      have C2 := Lib.hid c2
      clear c2 hnat
      go_enter Tryz.func160, Tryz.ntmps160
      go_wp2_with (first
        | (go_at_call 155; refine (C1.out _).mono ?_; rintro _ _ ⟨rfl, rfl⟩)
        | (go_at_call 157; refine (C2.out _).mono ?_; rintro _ _ ⟨rfl, rfl⟩))
      go_ret
      exact ⟨ret_bool' hb.out.symm, rfl⟩

/-- The ways of parsing an int. -/
theorem pint_ways {s : ByteArray} {v er : Int} (h : pint (strL s) = (v, er)) :
    (intB (strL s) = false ∧ v = 0 ∧ er = 3) ∨
    (intB (strL s) = true ∧ ∃ u, Lib.atoiAll s.data.toList = .ok u ∧ ((u < -4611686018427387904 ∧ v = 0 ∧ er = 6) ∨ (4611686018427387904 < u ∧ v = 0 ∧ er = 6) ∨ (-4611686018427387904 ≤ u ∧ u ≤ 4611686018427387904 ∧ v = u ∧ er = 0))) ∨
    (intB (strL s) = true ∧ Lib.atoiAll s.data.toList = .range ∧ v = 0 ∧ er = 6) := by
  rw [strL_nI] at h ⊢
  obtain ⟨L, hL⟩ : ∃ L, s.data.toList = L := ⟨_, rfl⟩
  rw [hL] at h ⊢
  clear hL
  by_cases hn : (nI L).head? = some 45
  · obtain ⟨r, rfl⟩ : ∃ r, L = 45 :: r := by
      match L, hn with
      | x :: r, hn =>
        simp only [nI, List.map_cons, List.head?_cons, Option.some.injEq] at hn
        exact ⟨r, by congr 1; exact UInt8.toNat_inj.1 (by show x.toNat = 45; omega)⟩
    have ht : (nI (45 :: r)).tail = nI r := rfl
    unfold pint at h
    unfold intB
    rw [if_pos hn, ht] at h ⊢
    cases hnat : natB (nI r)
    · rw [natv_snd, hnat] at h
      simp only [true_or, if_true, Prod.mk.injEq] at h
      exact .inl ⟨rfl, h.1.symm, h.2.symm⟩
    · rw [natv_snd, hnat, natv_fst hnat] at h
      have h0 := vals_ge (nI r) 0 (natB_dgs hnat).1 (by omega)
      by_cases hz : nI r = [48]
      · rw [hz] at h
        have : vals [48] 0 = 0 := by decide
        rw [this, if_pos (.inr (by decide))] at h
        simp only [Prod.mk.injEq] at h
        exact .inl ⟨by rw [decide_eq_true hz]; rfl, h.1.symm, h.2.symm⟩
      · have hv : vals (nI r) 0 ≠ 0 := fun e => hz (vals_zero hnat e)
        obtain ⟨V, hV⟩ : ∃ V, vals (nI r) 0 = V := ⟨_, rfl⟩
        have ha := atoi_neg hnat
        rw [hV] at h h0 hv ha
        rw [if_neg (by simp; omega)] at h
        rw [decide_eq_false hz]
        rcases ha with ⟨a1, a2⟩ | ⟨a1, a2⟩
        · refine .inr (.inl ⟨rfl, _, a2, ?_⟩)
          by_cases hb : 4611686018427387904 < V
          · rw [if_pos (by omega)] at h
            simp only [Prod.mk.injEq] at h
            exact .inl ⟨by omega, h.1.symm, h.2.symm⟩
          · rw [if_neg (by omega)] at h
            simp only [Prod.mk.injEq] at h
            exact .inr (.inr ⟨by omega, by omega, by omega, h.2.symm⟩)
        · rw [if_pos (by omega)] at h
          simp only [Prod.mk.injEq] at h
          exact .inr (.inr ⟨rfl, a2, h.1.symm, h.2.symm⟩)
  · unfold pint at h
    unfold intB
    rw [if_neg hn] at h ⊢
    cases hnat : natB (nI L)
    · rw [natv_snd, hnat] at h
      simp only [if_true, Prod.mk.injEq] at h
      exact .inl ⟨rfl, h.1.symm, h.2.symm⟩
    · rw [natv_snd, hnat, natv_fst hnat] at h
      have h0 := vals_ge (nI L) 0 (natB_dgs hnat).1 (by omega)
      obtain ⟨V, hV⟩ : ∃ V, vals (nI L) 0 = V := ⟨_, rfl⟩
      have ha := atoi_nat hnat
      rw [hV] at h h0 ha
      rw [if_neg (by simp)] at h
      rcases ha with ⟨a1, a2⟩ | ⟨a1, a2⟩
      · refine .inr (.inl ⟨rfl, _, a2, ?_⟩)
        by_cases hb : 4611686018427387904 < V
        · rw [if_pos (by omega)] at h
          simp only [Prod.mk.injEq] at h
          exact .inr (.inl ⟨by omega, h.1.symm, h.2.symm⟩)
        · rw [if_neg (by omega)] at h
          simp only [Prod.mk.injEq] at h
          exact .inr (.inr ⟨by omega, by omega, by omega, h.2.symm⟩)
      · rw [if_pos (by omega)] at h
        simp only [Prod.mk.injEq] at h
        exact .inr (.inr ⟨rfl, a2, h.1.symm, h.2.symm⟩)

theorem parseInt_b (s : ByteArray) (v er : Int) (w : World) (LL : Lay6 w) (hs : s.size ≤ 20000) (h : pint (strL s) = (v, er)) :
    Calls Tryz.prog 148 #[.string s] w fun e w' => e = .returned (.tuple #[.int .i64 v, .int .i64 er]) ∧ Below w.heap.size w w' := by
  have c1 := fun W => isInteger_q s W (by omega)
  have HL := Lib.hid LL
  clear LL
  rcases pint_ways h with ⟨hi, rfl, rfl⟩ | ⟨hi, u, ha, hu⟩ | ⟨hi, ha, rfl, rfl⟩
  · rw [hi] at c1
    have C1 := Lib.hid c1
    clear c1 hi h
    go_enter Tryz.func148, Tryz.ntmps148
    go_wp2_with (go_at_call 160; refine (C1.out _).mono ?_; rintro _ _ ⟨rfl, rfl⟩)
    go_ret2
    exact ⟨rfl, Below.refl _ _⟩
  · rw [hi] at c1
    have C1 := Lib.hid c1
    have HA := Lib.hid ha
    clear c1 hi h ha
    rcases hu with ⟨hu, rfl, rfl⟩ | ⟨hu, rfl, rfl⟩ | ⟨h0, h1, rfl, rfl⟩
    all_goals
      go_enter Tryz.func148, Tryz.ntmps148
      go_wp2_with (first
        | (go_at_call 160; refine (C1.out _).mono ?_; rintro _ _ ⟨rfl, rfl⟩)
        | (go_at_call 161; refine (atoi_ok _ _ _ (by omega) HA.out).mono ?_; rintro _ W1 ⟨rfl, B⟩))
      go_ret2
      exact ⟨rfl, B⟩
  · rw [hi] at c1
    have C1 := Lib.hid c1
    have HA := Lib.hid ha
    clear c1 hi h ha
    go_enter Tryz.func148, Tryz.ntmps148
    go_wp2_with (first
      | (go_at_call 160; refine (C1.out _).mono ?_; rintro _ _ ⟨rfl, rfl⟩)
      | (go_at_call 161; refine (atoi_range _ _ HL.out (by omega) HA.out).mono ?_; rintro _ W1 ⟨t, N, rfl, B⟩))
    go_ret2
    exact ⟨rfl, B⟩

end Go.Proofs.YtjpkcgepdfpbnaaGreatDoor

/- What formatRemainder and FormatFixed of package format return. -/
namespace Go.Proofs.YtjpkcgepdfpbnaaGreatDoor
open Go.RowKit Go.Sort

/-- The digits of f with zeros ahead are the k digits of f. -/
theorem pad_zd (k : Nat) : ∀ f : Nat, f < 10 ^ k → 1 ≤ k → (dg f).length ≤ k ∧ List.replicate (k - (dg f).length) 48 ++ dg f = zd k f := by
  induction k with
  | zero => intro f _ h; omega
  | succ k ih =>
    intro f hf _
    rw [zd_succ]
    by_cases h : f < 10
    · rw [dg_lt h, show f / 10 = 0 by omega, show f % 10 = f by omega]
      refine ⟨by simp, ?_⟩
      rw [List.length_singleton, Nat.add_sub_cancel]
      congr 1
      rcases Nat.eq_zero_or_pos k with rfl | hk
      · rw [zd_zero]; rfl
      · have h1 := ih 0 (Nat.pow_pos (by omega)) hk
        rw [← h1.2, dg_lt (by omega)]
        show List.replicate k (48 : Int) = List.replicate (k - 1) 48 ++ [48]
        rw [← List.replicate_succ']
        congr 1
        omega
    · rw [dg_ge (by omega)]
      have hk : 1 ≤ k := by
        rcases Nat.eq_zero_or_pos k with rfl | hk
        · simp at hf; omega
        · exact hk
      have h1 := ih (f / 10) (by rw [Nat.pow_succ] at hf; omega) hk
      rw [List.length_append, List.length_singleton]
      refine ⟨by omega, ?_⟩
      rw [← h1.2, show k + 1 - ((dg (f / 10)).length + 1) = k - (dg (f / 10)).length by omega, List.append_assoc]

theorem fint_nat (f : Nat) : fint (f : Int) = dg f := by unfold fint; rw [if_neg (by omega), Int.toNat_natCast]

end Go.Proofs.YtjpkcgepdfpbnaaGreatDoor

/- What parseMagnitude and ParseFixed of package format return. -/
namespace Go.Proofs.YtjpkcgepdfpbnaaGreatDoor
open Go.RowKit Go.Sort

theorem atoi_dgs {l : List UInt8} (hd : dgs (nI l) = true) (hl : 0 < (nI l).length) (hv : vals (nI l) 0 < 9223372036854775808) : Lib.atoiAll l = .ok (vals (nI l) 0) := by
  match l, hl with
  | x :: r, _ =>
    have hx : 48 ≤ x.toNat ∧ x.toNat ≤ 57 := by
      simp only [nI, List.map_cons] at hd
      rw [dgs_cons] at hd
      simp only [Bool.and_eq_true, decide_eq_true_eq] at hd
      omega
    have hp := parse_vals (x :: r) 0 hd (by omega)
    have h0 := vals_ge (nI (x :: r)) 0 hd (by omega)
    unfold Lib.atoiAll Lib.parseMag
    simp only
    rw [if_neg (show ¬ (x.toNat = 43 ∨ x.toNat = 45) by omega), if_neg (by simp)]
    simp only [Int.ofNat_zero] at hp
    rcases hp with ⟨h1, h2⟩ | ⟨h1, h2⟩
    · rw [h2]
      simp only
      rw [if_neg (by omega), if_neg (by omega), if_neg (by omega)]
      congr 1
      omega
    · omega

theorem natB_head {l : List Int} (h : natB l = true) : l.head? ≠ some 45 := by
  obtain ⟨hd, hl⟩ := natB_dgs h
  match l, hl with
  | x :: r, _ =>
    rw [dgs_cons] at hd
    simp only [Bool.and_eq_true, decide_eq_true_eq] at hd
    simp only [List.head?_cons, ne_eq, Option.some.injEq]
    omega

theorem pint_nat {l : List Int} (h : natB l = true) : pint l = if 4611686018427387904 < (natv l).1 then (0, 6) else ((natv l).1, 0) := by
  unfold pint
  rw [if_neg (natB_head h), natv_snd, h, if_neg (by decide)]

/-- The number with these parts, or that it is out of range. -/
def mg (n q : Int) : Int × Int := if 536870911 < n ∨ 536870911 < n * 65536 + q then (0, 6) else (n * 65536 + q, 0)

set_option maxRecDepth 100000 in
theorem parseMagnitude_b (a b : ByteArray) (n f q v er : Int) (w : World) (LL : Lay6 w) (ha : a.size ≤ 20000) (hb : b.size ≤ 5) (hn : natv (strL a) = (n, true)) (hf : numb (strL b) = (f, true)) (hq : rda (f * 65536) (p10 b.size) = q) (h : mg n q = (v, er)) :
    Calls Tryz.prog 159 #[.string a, .string b] w fun e w' => e = .returned (.tuple #[.int .i64 v, .int .i64 er]) ∧ Below w.heap.size w w' := by
  have hnat : natB (strL a) = true := by rw [← natv_snd, hn]
  have hp := pint_nat hnat
  have hr := numb_room hf
  rw [strL_len] at hr
  have hnr := natv_rng (strL a)
  rw [hn] at hp hnr
  simp only at hp hnr
  have hqb := pfx_q hr.1 hr.2.1 (by omega) hb
  rw [hq] at hqb
  obtain ⟨n0, n1⟩ := hnr
  have HL := Lib.hid LL
  clear LL
  by_cases hbig : 536870911 < n
  · unfold mg at h
    rw [if_pos (.inl hbig)] at h
    simp only [Prod.mk.injEq] at h
    obtain ⟨rfl, rfl⟩ := h
    by_cases h62 : 4611686018427387904 < n
    · rw [if_pos h62] at hp
      have c1 := fun W L => parseInt_b a 0 6 W L ha hp
      have C1 := Lib.hid c1
      clear c1 hp hn hf hq hr hqb hnat
      go_enter Tryz.func159, Tryz.ntmps159
      go_wp2_with (go_at_call 148; refine (C1.out _ HL.out).mono ?_; rintro _ W1 ⟨rfl, B⟩)
      go_ret2
      exact ⟨rfl, B⟩
    · rw [if_neg h62] at hp
      have c1 := fun W L => parseInt_b a n 0 W L ha hp
      have C1 := Lib.hid c1
      clear c1 hp hn hf hq hr hqb hnat
      go_enter Tryz.func159, Tryz.ntmps159
      go_wp2_with (go_at_call 148; refine (C1.out _ HL.out).mono ?_; rintro _ W1 ⟨rfl, B⟩)
      go_ret2
      exact ⟨rfl, B⟩
  · rw [if_neg (by omega)] at hp
    have hdg : dgs (strL b) = true ∧ 0 < (strL b).length := by
      have h2 : (dgs (strL b) && decide (0 < (strL b).length)) = true := by rw [← numb_snd, hf]
      simp only [Bool.and_eq_true, decide_eq_true_eq] at h2
      exact h2
    have hfv := numb_vals hdg.1
    rw [hf] at hfv
    simp only at hfv
    have hat := atoi_dgs (l := b.data.toList) hdg.1 hdg.2 (by rw [← strL_nI]; omega)
    rw [← strL_nI, show vals (strL b) 0 = f by omega] at hat
    have c1 := fun W L => parseInt_b a n 0 W L ha hp
    have c2 := fun W => atoi_ok b f W (by omega) hat
    have c3 := fun W => powerOfTen_q b.size W (by omega)
    have c4 := fun W => fromDigits_q f b.size W (by omega) hb hr.1 (by omega)
    rw [hq] at c4
    obtain ⟨P, hP⟩ : ∃ P, p10 b.size = P := ⟨_, rfl⟩
    rw [hP] at c3 c4
    have C1 := Lib.hid c1
    have C2 := Lib.hid c2
    have C3 := Lib.hid c3
    have C4 := Lib.hid c4
    obtain ⟨q0, q1, f5⟩ := hqb
    have f0 := hr.1
    clear c1 c2 c3 c4 hp hn hf hq hr hnat hfv hat hdg hP
    unfold mg at h
    obtain ⟨V, hV⟩ : ∃ V, n * 65536 + q = V := ⟨_, rfl⟩
    have V0 : 0 ≤ V := by omega
    have V1 : V ≤ 536870911 * 65536 + 65536 := by omega
    rw [hV] at h
    have hcase : (536870911 < V ∧ v = 0 ∧ er = 6) ∨ (V ≤ 536870911 ∧ v = V ∧ er = 0) := by
      split at h
      · simp only [Prod.mk.injEq] at h
        exact .inl ⟨by omega, h.1.symm, h.2.symm⟩
      · simp only [Prod.mk.injEq] at h
        exact .inr ⟨by omega, h.1.symm, h.2.symm⟩
    clear h
    rcases hcase with ⟨hm, rfl, rfl⟩ | ⟨hm, rfl, rfl⟩
    all_goals
      go_enter Tryz.func159, Tryz.ntmps159
      go_wp2_with (first
        | (go_at_call 148; refine (C1.out _ HL.out).mono ?_; rintro _ W1 ⟨rfl, B1⟩)
        | (go_at_call 161; refine (C2.out _).mono ?_; rintro _ W2 ⟨rfl, B2⟩)
        | (go_at_call 170; refine (C3.out _).mono ?_; rintro _ _ ⟨rfl, rfl⟩)
        | (go_at_call 169; refine (C4.out _).mono ?_; rintro _ _ ⟨rfl, rfl⟩))
      go_ret2
      exact ⟨rfl, bon B1 B2⟩

set_option maxRecDepth 100000 in
set_option maxHeartbeats 2000000 in
theorem parseRest_b (s t : ByteArray) (neg : Bool) (v er : Int) (w : World) (LL : Lay6 w) (hs : t.size ≤ 20000)
    (hc : ∀ W, Calls Tryz.prog 155 #[.string s, .string ⟨#[45]⟩] W fun e w' => e = .returned (.tuple #[.string t, .bool neg]) ∧ W = w') (h : pfx neg (strL t) = (v, er)) :
    Calls Tryz.prog 147 #[.string s] w fun e w' => e = .returned (.tuple #[.int .i64 v, .int .i64 er]) ∧ Below w.heap.size w w' := by
  obtain ⟨a, ha⟩ : ∃ a, pnt (strL t) = a := ⟨_, rfl⟩
  have hal := pnt_le (strL t)
  rw [ha, strL_len] at hal
  have ht4 : t.size < 4294967281 := by omega
  have e1 : strL (t.extract 0 a) = (strL t).take a := by rw [strL_extract]; simp
  have e2 : strL (t.extract (a + 1) t.size) = (strL t).drop (a + 1) := by rw [strL_extract, List.take_of_length_le (by rw [List.length_drop, strL_len]; exact Nat.le_refl _)]
  have z1 : (t.extract 0 a).size = a := by rw [ByteArray.size_extract]; omega
  have z2 : (t.extract (a + 1) t.size).size = t.size - (a + 1) := by rw [ByteArray.size_extract]; omega
  obtain ⟨A, hA⟩ : ∃ A, t.extract 0 a = A := ⟨_, rfl⟩
  obtain ⟨D, hD⟩ : ∃ D, t.extract (a + 1) t.size = D := ⟨_, rfl⟩
  rw [hA] at e1 z1
  rw [hD] at e2 z2
  obtain ⟨n, ok, hn⟩ : ∃ n ok, natv ((strL t).take a) = (n, ok) := ⟨_, _, rfl⟩
  obtain ⟨f, is, hf⟩ : ∃ f is, numb ((strL t).drop (a + 1)) = (f, is) := ⟨_, _, rfl⟩
  have hA2 : A.size ≤ 20000 := by omega
  have hD2 : D.size ≤ 20000 := by omega
  have hA3 : A.size ≤ 9223372036854775807 := by omega
  have hD3 : D.size ≤ 9223372036854775807 := by omega
  have hw := pfx_ways h ha hn hf
  rw [strL_len] at hw
  have hcut1 := fun (hlt : a < t.size) W L => cut_yes_b t A D W L ht4 (by rw [ha]; exact hlt) (by rw [ha]; exact e1) (by rw [ha]; exact e2)
  have hcut0 := fun (he : a = t.size) W L => cut_no_b t W L ht4 (by rw [ha]; exact he)
  rw [← e1] at hn
  rw [← e2] at hf
  have cn := fun W => isNatural_q A W hA3
  have cd := fun W => isDigits_q D W hD3
  rw [← natv_snd, hn] at cn
  have hds : digsB (strL D) = is := by
    have := numb_snd (strL D)
    rw [hf] at this
    exact this.symm
  rw [hds] at cd
  simp only at cn
  have HC := Lib.hid hc
  have CN := Lib.hid cn
  have CD := Lib.hid cd
  have HCUT1 := Lib.hid hcut1
  have HCUT0 := Lib.hid hcut0
  have HN := Lib.hid hn
  have HF := Lib.hid hf
  have HL := Lib.hid LL
  clear hc cn cd hcut1 hcut0 hn hf LL hA hD e1 e2 hds h ha
  rcases hw with ⟨hae, rfl, rfl⟩ | ⟨hlt, rfl, rfl, rfl⟩ | ⟨hlt, rfl, rfl, rfl, rfl⟩ | ⟨hlt, rfl, rfl, h6, rfl, rfl⟩ | ⟨hlt, rfl, rfl, h6, hbig, rfl, rfl⟩ | ⟨k, q, hk, k1, k5, rfl, rfl, n0, n1, f0, f1, hq, q0, q1, hways⟩
  · have CC := Lib.hid (HCUT0.out hae)
    clear hae z1 z2
    go_enter Tryz.func147, Tryz.ntmps147
    go_wp2_with (first
      | (go_at_call 155; refine (HC.out _).mono ?_; rintro _ _ ⟨rfl, rfl⟩)
      | (go_at_call 156; refine (CC.out _ HL.out).mono ?_; rintro _ W1 ⟨rfl, B1⟩))
    go_ret2
    exact ⟨rfl, B1⟩
  · have CC := Lib.hid (HCUT1.out hlt)
    clear z1 z2
    go_enter Tryz.func147, Tryz.ntmps147
    go_wp2_with (first
      | (go_at_call 155; refine (HC.out _).mono ?_; rintro _ _ ⟨rfl, rfl⟩)
      | (go_at_call 156; refine (CC.out _ HL.out).mono ?_; rintro _ W1 ⟨rfl, B1⟩)
      | (go_at_call 157; refine (CN.out _).mono ?_; rintro _ _ ⟨rfl, rfl⟩))
    go_ret2
    exact ⟨rfl, B1⟩
  · have CC := Lib.hid (HCUT1.out hlt)
    clear z1 z2
    go_enter Tryz.func147, Tryz.ntmps147
    go_wp2_with (first
      | (go_at_call 155; refine (HC.out _).mono ?_; rintro _ _ ⟨rfl, rfl⟩)
      | (go_at_call 156; refine (CC.out _ HL.out).mono ?_; rintro _ W1 ⟨rfl, B1⟩)
      | (go_at_call 157; refine (CN.out _).mono ?_; rintro _ _ ⟨rfl, rfl⟩)
      | (go_at_call 158; refine (CD.out _).mono ?_; rintro _ _ ⟨rfl, rfl⟩))
    go_ret2
    exact ⟨rfl, B1⟩
  · have CC := Lib.hid (HCUT1.out hlt)
    have d5 : 5 < (D.size : Int) := by omega
    clear z1 z2
    go_enter Tryz.func147, Tryz.ntmps147
    go_wp2_with (first
      | (go_at_call 155; refine (HC.out _).mono ?_; rintro _ _ ⟨rfl, rfl⟩)
      | (go_at_call 156; refine (CC.out _ HL.out).mono ?_; rintro _ W1 ⟨rfl, B1⟩)
      | (go_at_call 157; refine (CN.out _).mono ?_; rintro _ _ ⟨rfl, rfl⟩)
      | (go_at_call 158; refine (CD.out _).mono ?_; rintro _ _ ⟨rfl, rfl⟩))
    go_ret2
    exact ⟨rfl, B1⟩
  · have CC := Lib.hid (HCUT1.out hlt)
    have d5 : (D.size : Int) ≤ 5 := by omega
    have cm := fun W L => parseMagnitude_b A D n f _ 0 6 W L hA2 (by omega) HN.out HF.out rfl (by unfold mg; rw [if_pos (.inl hbig)])
    have CM := Lib.hid cm
    clear z1 z2 cm
    go_enter Tryz.func147, Tryz.ntmps147
    go_wp2_with (first
      | (go_at_call 155; refine (HC.out _).mono ?_; rintro _ _ ⟨rfl, rfl⟩)
      | (go_at_call 156; refine (CC.out _ HL.out).mono ?_; rintro _ W1 ⟨rfl, B1⟩)
      | (go_at_call 157; refine (CN.out _).mono ?_; rintro _ _ ⟨rfl, rfl⟩)
      | (go_at_call 158; refine (CD.out _).mono ?_; rintro _ _ ⟨rfl, rfl⟩)
      | (go_at_call 159; refine (CM.out _ (HL.out.on B1)).mono ?_; rintro _ W2 ⟨rfl, B2⟩))
    go_ret2
    exact ⟨rfl, bon B1 B2⟩
  · have CC := Lib.hid (HCUT1.out (by omega))
    have d5 : (D.size : Int) ≤ 5 := by omega
    have hDk : D.size = k := by omega
    have cm := fun v er he W L => parseMagnitude_b A D n f q v er W L hA2 (by omega) HN.out HF.out (by rw [hDk]; exact hq) he
    obtain ⟨V, hV⟩ : ∃ V, n * 65536 + q = V := ⟨_, rfl⟩
    have V0 : 0 ≤ V := by omega
    have hmg1 : 536870911 < V → mg n q = (0, 6) := fun h => by unfold mg; rw [if_pos (.inr (by omega))]
    have hmg2 : V ≤ 536870911 → mg n q = (V, 0) := fun h => by unfold mg; rw [if_neg (by omega), hV]
    rw [hV] at hways
    have CM0 := Lib.hid cm
    have HQ := Lib.hid hmg1
    have HR := Lib.hid hmg2
    clear z1 z2 cm hq hV hmg1 hmg2 hDk HN HF HCUT1 HCUT0
    rcases hways with ⟨rfl, h0, rfl, rfl⟩ | ⟨_, hb, rfl, rfl⟩ | ⟨rfl, h0, hb, rfl, rfl⟩ | ⟨rfl, hb, rfl, rfl⟩
    · subst h0
      have CM := Lib.hid (CM0.out 0 0 (HR.out (by omega)))
      clear CM0 HQ HR
      go_enter Tryz.func147, Tryz.ntmps147
      go_wp2_with (first
        | (go_at_call 155; refine (HC.out _).mono ?_; rintro _ _ ⟨rfl, rfl⟩)
        | (go_at_call 156; refine (CC.out _ HL.out).mono ?_; rintro _ W1 ⟨rfl, B1⟩)
        | (go_at_call 157; refine (CN.out _).mono ?_; rintro _ _ ⟨rfl, rfl⟩)
        | (go_at_call 158; refine (CD.out _).mono ?_; rintro _ _ ⟨rfl, rfl⟩)
        | (go_at_call 159; refine (CM.out _ (HL.out.on B1)).mono ?_; rintro _ W2 ⟨rfl, B2⟩))
      go_ret2
      exact ⟨rfl, bon B1 B2⟩
    · have CM := Lib.hid (CM0.out 0 6 (HQ.out hb))
      clear CM0 HQ HR
      go_enter Tryz.func147, Tryz.ntmps147
      go_wp2_with (first
        | (go_at_call 155; refine (HC.out _).mono ?_; rintro _ _ ⟨rfl, rfl⟩)
        | (go_at_call 156; refine (CC.out _ HL.out).mono ?_; rintro _ W1 ⟨rfl, B1⟩)
        | (go_at_call 157; refine (CN.out _).mono ?_; rintro _ _ ⟨rfl, rfl⟩)
        | (go_at_call 158; refine (CD.out _).mono ?_; rintro _ _ ⟨rfl, rfl⟩)
        | (go_at_call 159; refine (CM.out _ (HL.out.on B1)).mono ?_; rintro _ W2 ⟨rfl, B2⟩))
      go_ret2
      exact ⟨rfl, bon B1 B2⟩
    · have CM := Lib.hid (CM0.out V 0 (HR.out hb))
      have hne : (V == 0) = false := by simp; omega
      clear CM0 HQ HR
      go_enter Tryz.func147, Tryz.ntmps147
      go_wp2_with (first
        | (go_at_call 155; refine (HC.out _).mono ?_; rintro _ _ ⟨rfl, rfl⟩)
        | (go_at_call 156; refine (CC.out _ HL.out).mono ?_; rintro _ W1 ⟨rfl, B1⟩)
        | (go_at_call 157; refine (CN.out _).mono ?_; rintro _ _ ⟨rfl, rfl⟩)
        | (go_at_call 158; refine (CD.out _).mono ?_; rintro _ _ ⟨rfl, rfl⟩)
        | (go_at_call 159; refine (CM.out _ (HL.out.on B1)).mono ?_; rintro _ W2 ⟨rfl, B2⟩))
      go_ret2
      exact ⟨rfl, bon B1 B2⟩
    · have CM := Lib.hid (CM0.out v 0 (HR.out hb))
      clear CM0 HQ HR
      go_enter Tryz.func147, Tryz.ntmps147
      go_wp2_with (first
        | (go_at_call 155; refine (HC.out _).mono ?_; rintro _ _ ⟨rfl, rfl⟩)
        | (go_at_call 156; refine (CC.out _ HL.out).mono ?_; rintro _ W1 ⟨rfl, B1⟩)
        | (go_at_call 157; refine (CN.out _).mono ?_; rintro _ _ ⟨rfl, rfl⟩)
        | (go_at_call 158; refine (CD.out _).mono ?_; rintro _ _ ⟨rfl, rfl⟩)
        | (go_at_call 159; refine (CM.out _ (HL.out.on B1)).mono ?_; rintro _ W2 ⟨rfl, B2⟩))
      go_ret2
      exact ⟨rfl, bon B1 B2⟩

theorem parseFixed_b (s : ByteArray) (v er : Int) (w : World) (LL : Lay6 w) (hs : s.size ≤ 20000) (h : pfix (strL s) = (v, er)) :
    Calls Tryz.prog 147 #[.string s] w fun e w' => e = .returned (.tuple #[.int .i64 v, .int .i64 er]) ∧ Below w.heap.size w w' := by
  by_cases hn : (strL s).head? = some 45
  · unfold pfix at h
    rw [if_pos hn] at h
    refine parseRest_b s (s.extract 1 s.size) true v er w LL (by rw [ByteArray.size_extract]; omega) (fun W => cutPre_yes s _ W hn (tail_str s)) (by rw [tail_str]; exact h)
  · unfold pfix at h
    rw [if_neg hn] at h
    exact parseRest_b s s false v er w LL hs (fun W => cutPre_no s W hn) h

end Go.Proofs.YtjpkcgepdfpbnaaGreatDoor
