/- What parseMagnitude and ParseFixed of package format return. -/
import Derived.Test.YthancgnmbmempaaDoorG7
namespace Go.Proofs.YthancgnmbmempaaDoor
open Go.RowKit Go.Sort

theorem atoi_dgs {l : List UInt8} (hd : dgs (nI l) = true) (hl : 0 < (nI l).length) (hv : vals (nI l) 0 < 9223372036854775808) : Lib.atoiAll l = .ok (vals (nI l) 0) := by
  match l, hl with
  | x :: r, _ =>
    have hx : 48 ≤ x.toNat ∧ x.toNat ≤ 57 := by
      simp only [nI, List.map_cons] at hd
      rw [dgs_cons] at hd
      simp only [Bool.and_eq_true, decide_eq_true_eq] at hd
      omega
    have hp := parse_vals (x :: r) 0 hd (by omega)
    have h0 := vals_ge (nI (x :: r)) 0 hd (by omega)
    unfold Lib.atoiAll Lib.parseMag
    simp only
    rw [if_neg (show ¬ (x.toNat = 43 ∨ x.toNat = 45) by omega), if_neg (by simp)]
    simp only [Int.ofNat_zero] at hp
    rcases hp with ⟨h1, h2⟩ | ⟨h1, h2⟩
    · rw [h2]
      simp only
      rw [if_neg (by omega), if_neg (by omega), if_neg (by omega)]
      congr 1
      omega
    · omega

theorem natB_head {l : List Int} (h : natB l = true) : l.head? ≠ some 45 := by
  obtain ⟨hd, hl⟩ := natB_dgs h
  match l, hl with
  | x :: r, _ =>
    rw [dgs_cons] at hd
    simp only [Bool.and_eq_true, decide_eq_true_eq] at hd
    simp only [List.head?_cons, ne_eq, Option.some.injEq]
    omega

theorem pint_nat {l : List Int} (h : natB l = true) : pint l = if 4611686018427387904 < (natv l).1 then (0, 6) else ((natv l).1, 0) := by
  unfold pint
  rw [if_neg (natB_head h), natv_snd, h, if_neg (by decide)]

/-- The number with these parts, or that it is out of range. -/
def mg (n q : Int) : Int × Int := if 536870911 < n ∨ 536870911 < n * 65536 + q then (0, 6) else (n * 65536 + q, 0)

set_option maxRecDepth 100000 in
theorem parseMagnitude_b (a b : ByteArray) (n f q v er : Int) (w : World) (LL : Lay6 w) (ha : a.size ≤ 2000) (hb : b.size ≤ 5) (hn : natv (strL a) = (n, true)) (hf : numb (strL b) = (f, true)) (hq : rda (f * 65536) (p10 b.size) = q) (h : mg n q = (v, er)) :
    Calls Tryd.prog 37 #[.string a, .string b] w fun e w' => e = .returned (.tuple #[.int .i64 v, .int .i64 er]) ∧ Below w.heap.size w w' := by
  have hnat : natB (strL a) = true := by rw [← natv_snd, hn]
  have hp := pint_nat hnat
  have hr := numb_room hf
  rw [strL_len] at hr
  have hnr := natv_rng (strL a)
  rw [hn] at hp hnr
  simp only at hp hnr
  have hqb := pfx_q hr.1 hr.2.1 (by omega) hb
  rw [hq] at hqb
  obtain ⟨n0, n1⟩ := hnr
  have HL := Lib.hid LL
  clear LL
  by_cases hbig : 536870911 < n
  · unfold mg at h
    rw [if_pos (.inl hbig)] at h
    simp only [Prod.mk.injEq] at h
    obtain ⟨rfl, rfl⟩ := h
    by_cases h62 : 4611686018427387904 < n
    · rw [if_pos h62] at hp
      have c1 := fun W L => parseInt_b a 0 6 W L ha hp
      have C1 := Lib.hid c1
      clear c1 hp hn hf hq hr hqb hnat
      go_enter Tryd.func37, Tryd.ntmps37
      go_wp2_with (go_at_call 11; refine (C1.out _ HL.out).mono ?_; rintro _ W1 ⟨rfl, B⟩)
      go_ret2
      exact ⟨rfl, B⟩
    · rw [if_neg h62] at hp
      have c1 := fun W L => parseInt_b a n 0 W L ha hp
      have C1 := Lib.hid c1
      clear c1 hp hn hf hq hr hqb hnat
      go_enter Tryd.func37, Tryd.ntmps37
      go_wp2_with (go_at_call 11; refine (C1.out _ HL.out).mono ?_; rintro _ W1 ⟨rfl, B⟩)
      go_ret2
      exact ⟨rfl, B⟩
  · rw [if_neg (by omega)] at hp
    have hdg : dgs (strL b) = true ∧ 0 < (strL b).length := by
      have h2 : (dgs (strL b) && decide (0 < (strL b).length)) = true := by rw [← numb_snd, hf]
      simp only [Bool.and_eq_true, decide_eq_true_eq] at h2
      exact h2
    have hfv := numb_vals hdg.1
    rw [hf] at hfv
    simp only at hfv
    have hat := atoi_dgs (l := b.data.toList) hdg.1 hdg.2 (by rw [← strL_nI]; omega)
    rw [← strL_nI, show vals (strL b) 0 = f by omega] at hat
    have c1 := fun W L => parseInt_b a n 0 W L ha hp
    have c2 := fun W => atoi_ok b f W (by omega) hat
    have c3 := fun W => powerOfTen_q b.size W (by omega)
    have c4 := fun W => fromDigits_q f b.size W (by omega) hb hr.1 (by omega)
    rw [hq] at c4
    obtain ⟨P, hP⟩ : ∃ P, p10 b.size = P := ⟨_, rfl⟩
    rw [hP] at c3 c4
    have C1 := Lib.hid c1
    have C2 := Lib.hid c2
    have C3 := Lib.hid c3
    have C4 := Lib.hid c4
    obtain ⟨q0, q1, f5⟩ := hqb
    have f0 := hr.1
    clear c1 c2 c3 c4 hp hn hf hq hr hnat hfv hat hdg hP
    unfold mg at h
    obtain ⟨V, hV⟩ : ∃ V, n * 65536 + q = V := ⟨_, rfl⟩
    have V0 : 0 ≤ V := by omega
    have V1 : V ≤ 536870911 * 65536 + 65536 := by omega
    rw [hV] at h
    have hcase : (536870911 < V ∧ v = 0 ∧ er = 6) ∨ (V ≤ 536870911 ∧ v = V ∧ er = 0) := by
      split at h
      · simp only [Prod.mk.injEq] at h
        exact .inl ⟨by omega, h.1.symm, h.2.symm⟩
      · simp only [Prod.mk.injEq] at h
        exact .inr ⟨by omega, h.1.symm, h.2.symm⟩
    clear h
    rcases hcase with ⟨hm, rfl, rfl⟩ | ⟨hm, rfl, rfl⟩
    all_goals
      go_enter Tryd.func37, Tryd.ntmps37
      go_wp2_with (first
        | (go_at_call 11; refine (C1.out _ HL.out).mono ?_; rintro _ W1 ⟨rfl, B1⟩)
        | (go_at_call 31; refine (C2.out _).mono ?_; rintro _ W2 ⟨rfl, B2⟩)
        | (go_at_call 64; refine (C3.out _).mono ?_; rintro _ _ ⟨rfl, rfl⟩)
        | (go_at_call 63; refine (C4.out _).mono ?_; rintro _ _ ⟨rfl, rfl⟩))
      go_ret2
      exact ⟨rfl, bon B1 B2⟩

set_option maxRecDepth 100000 in
set_option maxHeartbeats 2000000 in
theorem parseRest_b (s t : ByteArray) (neg : Bool) (v er : Int) (w : World) (LL : Lay6 w) (hs : t.size ≤ 2000)
    (hc : ∀ W, Calls Tryd.prog 33 #[.string s, .string ⟨#[45]⟩] W fun e w' => e = .returned (.tuple #[.string t, .bool neg]) ∧ W = w') (h : pfx neg (strL t) = (v, er)) :
    Calls Tryd.prog 13 #[.string s] w fun e w' => e = .returned (.tuple #[.int .i64 v, .int .i64 er]) ∧ Below w.heap.size w w' := by
  obtain ⟨a, ha⟩ : ∃ a, pnt (strL t) = a := ⟨_, rfl⟩
  have hal := pnt_le (strL t)
  rw [ha, strL_len] at hal
  have ht4 : t.size < 4294967281 := by omega
  have e1 : strL (t.extract 0 a) = (strL t).take a := by rw [strL_extract]; simp
  have e2 : strL (t.extract (a + 1) t.size) = (strL t).drop (a + 1) := by rw [strL_extract, List.take_of_length_le (by rw [List.length_drop, strL_len]; exact Nat.le_refl _)]
  have z1 : (t.extract 0 a).size = a := by rw [ByteArray.size_extract]; omega
  have z2 : (t.extract (a + 1) t.size).size = t.size - (a + 1) := by rw [ByteArray.size_extract]; omega
  obtain ⟨A, hA⟩ : ∃ A, t.extract 0 a = A := ⟨_, rfl⟩
  obtain ⟨D, hD⟩ : ∃ D, t.extract (a + 1) t.size = D := ⟨_, rfl⟩
  rw [hA] at e1 z1
  rw [hD] at e2 z2
  obtain ⟨n, ok, hn⟩ : ∃ n ok, natv ((strL t).take a) = (n, ok) := ⟨_, _, rfl⟩
  obtain ⟨f, is, hf⟩ : ∃ f is, numb ((strL t).drop (a + 1)) = (f, is) := ⟨_, _, rfl⟩
  have hA2 : A.size ≤ 2000 := by omega
  have hD2 : D.size ≤ 2000 := by omega
  have hA3 : A.size ≤ 9223372036854775807 := by omega
  have hD3 : D.size ≤ 9223372036854775807 := by omega
  have hw := pfx_ways h ha hn hf
  rw [strL_len] at hw
  have hcut1 := fun (hlt : a < t.size) W L => cut_yes_b t A D W L ht4 (by rw [ha]; exact hlt) (by rw [ha]; exact e1) (by rw [ha]; exact e2)
  have hcut0 := fun (he : a = t.size) W L => cut_no_b t W L ht4 (by rw [ha]; exact he)
  rw [← e1] at hn
  rw [← e2] at hf
  have cn := fun W => isNatural_q A W hA3
  have cd := fun W => isDigits_q D W hD3
  rw [← natv_snd, hn] at cn
  have hds : digsB (strL D) = is := by
    have := numb_snd (strL D)
    rw [hf] at this
    exact this.symm
  rw [hds] at cd
  simp only at cn
  have HC := Lib.hid hc
  have CN := Lib.hid cn
  have CD := Lib.hid cd
  have HCUT1 := Lib.hid hcut1
  have HCUT0 := Lib.hid hcut0
  have HN := Lib.hid hn
  have HF := Lib.hid hf
  have HL := Lib.hid LL
  clear hc cn cd hcut1 hcut0 hn hf LL hA hD e1 e2 hds h ha
  rcases hw with ⟨hae, rfl, rfl⟩ | ⟨hlt, rfl, rfl, rfl⟩ | ⟨hlt, rfl, rfl, rfl, rfl⟩ | ⟨hlt, rfl, rfl, h6, rfl, rfl⟩ | ⟨hlt, rfl, rfl, h6, hbig, rfl, rfl⟩ | ⟨k, q, hk, k1, k5, rfl, rfl, n0, n1, f0, f1, hq, q0, q1, hways⟩
  · have CC := Lib.hid (HCUT0.out hae)
    clear hae z1 z2
    go_enter Tryd.func13, Tryd.ntmps13
    go_wp2_with (first
      | (go_at_call 33; refine (HC.out _).mono ?_; rintro _ _ ⟨rfl, rfl⟩)
      | (go_at_call 34; refine (CC.out _ HL.out).mono ?_; rintro _ W1 ⟨rfl, B1⟩))
    go_ret2
    exact ⟨rfl, B1⟩
  · have CC := Lib.hid (HCUT1.out hlt)
    clear z1 z2
    go_enter Tryd.func13, Tryd.ntmps13
    go_wp2_with (first
      | (go_at_call 33; refine (HC.out _).mono ?_; rintro _ _ ⟨rfl, rfl⟩)
      | (go_at_call 34; refine (CC.out _ HL.out).mono ?_; rintro _ W1 ⟨rfl, B1⟩)
      | (go_at_call 35; refine (CN.out _).mono ?_; rintro _ _ ⟨rfl, rfl⟩))
    go_ret2
    exact ⟨rfl, B1⟩
  · have CC := Lib.hid (HCUT1.out hlt)
    clear z1 z2
    go_enter Tryd.func13, Tryd.ntmps13
    go_wp2_with (first
      | (go_at_call 33; refine (HC.out _).mono ?_; rintro _ _ ⟨rfl, rfl⟩)
      | (go_at_call 34; refine (CC.out _ HL.out).mono ?_; rintro _ W1 ⟨rfl, B1⟩)
      | (go_at_call 35; refine (CN.out _).mono ?_; rintro _ _ ⟨rfl, rfl⟩)
      | (go_at_call 36; refine (CD.out _).mono ?_; rintro _ _ ⟨rfl, rfl⟩))
    go_ret2
    exact ⟨rfl, B1⟩
  · have CC := Lib.hid (HCUT1.out hlt)
    have d5 : 5 < (D.size : Int) := by omega
    clear z1 z2
    go_enter Tryd.func13, Tryd.ntmps13
    go_wp2_with (first
      | (go_at_call 33; refine (HC.out _).mono ?_; rintro _ _ ⟨rfl, rfl⟩)
      | (go_at_call 34; refine (CC.out _ HL.out).mono ?_; rintro _ W1 ⟨rfl, B1⟩)
      | (go_at_call 35; refine (CN.out _).mono ?_; rintro _ _ ⟨rfl, rfl⟩)
      | (go_at_call 36; refine (CD.out _).mono ?_; rintro _ _ ⟨rfl, rfl⟩))
    go_ret2
    exact ⟨rfl, B1⟩
  · have CC := Lib.hid (HCUT1.out hlt)
    have d5 : (D.size : Int) ≤ 5 := by omega
    have cm := fun W L => parseMagnitude_b A D n f _ 0 6 W L hA2 (by omega) HN.out HF.out rfl (by unfold mg; rw [if_pos (.inl hbig)])
    have CM := Lib.hid cm
    clear z1 z2 cm
    go_enter Tryd.func13, Tryd.ntmps13
    go_wp2_with (first
      | (go_at_call 33; refine (HC.out _).mono ?_; rintro _ _ ⟨rfl, rfl⟩)
      | (go_at_call 34; refine (CC.out _ HL.out).mono ?_; rintro _ W1 ⟨rfl, B1⟩)
      | (go_at_call 35; refine (CN.out _).mono ?_; rintro _ _ ⟨rfl, rfl⟩)
      | (go_at_call 36; refine (CD.out _).mono ?_; rintro _ _ ⟨rfl, rfl⟩)
      | (go_at_call 37; refine (CM.out _ (HL.out.on B1)).mono ?_; rintro _ W2 ⟨rfl, B2⟩))
    go_ret2
    exact ⟨rfl, bon B1 B2⟩
  · have CC := Lib.hid (HCUT1.out (by omega))
    have d5 : (D.size : Int) ≤ 5 := by omega
    have hDk : D.size = k := by omega
    have cm := fun v er he W L => parseMagnitude_b A D n f q v er W L hA2 (by omega) HN.out HF.out (by rw [hDk]; exact hq) he
    obtain ⟨V, hV⟩ : ∃ V, n * 65536 + q = V := ⟨_, rfl⟩
    have V0 : 0 ≤ V := by omega
    have hmg1 : 536870911 < V → mg n q = (0, 6) := fun h => by unfold mg; rw [if_pos (.inr (by omega))]
    have hmg2 : V ≤ 536870911 → mg n q = (V, 0) := fun h => by unfold mg; rw [if_neg (by omega), hV]
    rw [hV] at hways
    have CM0 := Lib.hid cm
    have HQ := Lib.hid hmg1
    have HR := Lib.hid hmg2
    clear z1 z2 cm hq hV hmg1 hmg2 hDk HN HF HCUT1 HCUT0
    rcases hways with ⟨rfl, h0, rfl, rfl⟩ | ⟨_, hb, rfl, rfl⟩ | ⟨rfl, h0, hb, rfl, rfl⟩ | ⟨rfl, hb, rfl, rfl⟩
    · subst h0
      have CM := Lib.hid (CM0.out 0 0 (HR.out (by omega)))
      clear CM0 HQ HR
      go_enter Tryd.func13, Tryd.ntmps13
      go_wp2_with (first
        | (go_at_call 33; refine (HC.out _).mono ?_; rintro _ _ ⟨rfl, rfl⟩)
        | (go_at_call 34; refine (CC.out _ HL.out).mono ?_; rintro _ W1 ⟨rfl, B1⟩)
        | (go_at_call 35; refine (CN.out _).mono ?_; rintro _ _ ⟨rfl, rfl⟩)
        | (go_at_call 36; refine (CD.out _).mono ?_; rintro _ _ ⟨rfl, rfl⟩)
        | (go_at_call 37; refine (CM.out _ (HL.out.on B1)).mono ?_; rintro _ W2 ⟨rfl, B2⟩))
      go_ret2
      exact ⟨rfl, bon B1 B2⟩
    · have CM := Lib.hid (CM0.out 0 6 (HQ.out hb))
      clear CM0 HQ HR
      go_enter Tryd.func13, Tryd.ntmps13
      go_wp2_with (first
        | (go_at_call 33; refine (HC.out _).mono ?_; rintro _ _ ⟨rfl, rfl⟩)
        | (go_at_call 34; refine (CC.out _ HL.out).mono ?_; rintro _ W1 ⟨rfl, B1⟩)
        | (go_at_call 35; refine (CN.out _).mono ?_; rintro _ _ ⟨rfl, rfl⟩)
        | (go_at_call 36; refine (CD.out _).mono ?_; rintro _ _ ⟨rfl, rfl⟩)
        | (go_at_call 37; refine (CM.out _ (HL.out.on B1)).mono ?_; rintro _ W2 ⟨rfl, B2⟩))
      go_ret2
      exact ⟨rfl, bon B1 B2⟩
    · have CM := Lib.hid (CM0.out V 0 (HR.out hb))
      have hne : (V == 0) = false := by simp; omega
      clear CM0 HQ HR
      go_enter Tryd.func13, Tryd.ntmps13
      go_wp2_with (first
        | (go_at_call 33; refine (HC.out _).mono ?_; rintro _ _ ⟨rfl, rfl⟩)
        | (go_at_call 34; refine (CC.out _ HL.out).mono ?_; rintro _ W1 ⟨rfl, B1⟩)
        | (go_at_call 35; refine (CN.out _).mono ?_; rintro _ _ ⟨rfl, rfl⟩)
        | (go_at_call 36; refine (CD.out _).mono ?_; rintro _ _ ⟨rfl, rfl⟩)
        | (go_at_call 37; refine (CM.out _ (HL.out.on B1)).mono ?_; rintro _ W2 ⟨rfl, B2⟩))
      go_ret2
      exact ⟨rfl, bon B1 B2⟩
    · have CM := Lib.hid (CM0.out v 0 (HR.out hb))
      clear CM0 HQ HR
      go_enter Tryd.func13, Tryd.ntmps13
      go_wp2_with (first
        | (go_at_call 33; refine (HC.out _).mono ?_; rintro _ _ ⟨rfl, rfl⟩)
        | (go_at_call 34; refine (CC.out _ HL.out).mono ?_; rintro _ W1 ⟨rfl, B1⟩)
        | (go_at_call 35; refine (CN.out _).mono ?_; rintro _ _ ⟨rfl, rfl⟩)
        | (go_at_call 36; refine (CD.out _).mono ?_; rintro _ _ ⟨rfl, rfl⟩)
        | (go_at_call 37; refine (CM.out _ (HL.out.on B1)).mono ?_; rintro _ W2 ⟨rfl, B2⟩))
      go_ret2
      exact ⟨rfl, bon B1 B2⟩

theorem parseFixed_b (s : ByteArray) (v er : Int) (w : World) (LL : Lay6 w) (hs : s.size ≤ 2000) (h : pfix (strL s) = (v, er)) :
    Calls Tryd.prog 13 #[.string s] w fun e w' => e = .returned (.tuple #[.int .i64 v, .int .i64 er]) ∧ Below w.heap.size w w' := by
  by_cases hn : (strL s).head? = some 45
  · unfold pfix at h
    rw [if_pos hn] at h
    refine parseRest_b s (s.extract 1 s.size) true v er w LL (by rw [ByteArray.size_extract]; omega) (fun W => cutPre_yes s _ W hn (tail_str s)) (by rw [tail_str]; exact h)
  · unfold pfix at h
    rw [if_neg hn] at h
    exact parseRest_b s s false v er w LL hs (fun W => cutPre_no s W hn) h

end Go.Proofs.YthancgnmbmempaaDoor
