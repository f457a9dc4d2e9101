/- What FormatInt, isInteger, ParseInt, padZeros of package format return. -/
import Derived.Test.YthancgnmbmempaaDoorG5
namespace Go.Proofs.YthancgnmbmempaaDoor
open Go.RowKit Go.Sort

theorem formatInt_b (n : Int) (w : World) (LL : Lay6 w) (h0 : -9223372036854775808 ≤ n) (h1 : n ≤ 9223372036854775807) :
    Calls Tryd.prog 12 #[.int .i64 n] w fun e w' => e = .returned (.string (strOfNums (fint n))) ∧ Below w.heap.size w w' := by
  have c := fun W L => itoa_b n (strOfNums (fint n)) W L h0 h1 (strL_of (fint_rng n))
  obtain ⟨z, hz⟩ : ∃ z, strOfNums (fint n) = z := ⟨_, rfl⟩
  rw [hz] at c ⊢
  have C := Lib.hid c
  have HL := Lib.hid LL
  clear hz c LL
  go_enter Tryd.func12, Tryd.ntmps12
  go_wp2_with (go_at_call 32; refine (C.out _ HL.out).mono ?_; rintro _ W1 ⟨rfl, B⟩)
  go_ret
  exact ⟨rfl, B⟩

/-- A decimal form of an int of any size. -/
def intB (l : List Int) : Bool := if l.head? = some 45 then natB l.tail && !decide (l.tail = [48]) else natB l

theorem isInteger_q (s : ByteArray) (w : World) (hs : s.size ≤ 9223372036854775807) :
    Calls Tryd.prog 30 #[.string s] w fun e w' => e = .returned (.bool (intB (strL s))) ∧ w = w' := by
  by_cases hn : (strL s).head? = some 45
  · have ht := tail_str s
    have hb : Hid (intB (strL s) = (natB (strL s).tail && !decide ((strL s).tail = [48]))) := Lib.hid (by unfold intB; rw [if_pos hn])
    obtain ⟨t, hte⟩ : ∃ t, s.extract 1 s.size = t := ⟨_, rfl⟩
    rw [hte] at ht
    have hts : t.size ≤ 9223372036854775807 := by rw [← hte, ByteArray.size_extract]; omega
    have c1 := fun W => cutPre_yes s t W hn ht
    have c2 := fun W => isNatural_q t W hts
    rw [ht] at c2
    have C1 := Lib.hid c1
    have HT := Lib.hid ht
    clear c1 hn ht hte hts
    cases hnat : natB (strL s).tail
    · rw [hnat] at c2 hb
      have C2 := Lib.hid c2
      clear c2 hnat
      go_enter Tryd.func30, Tryd.ntmps30
      go_wp2_with (first
        | (go_at_call 33; refine (C1.out _).mono ?_; rintro _ _ ⟨rfl, rfl⟩)
        | (go_at_call 35; refine (C2.out _).mono ?_; rintro _ _ ⟨rfl, rfl⟩))
      go_ret
      exact ⟨ret_bool' hb.out.symm, rfl⟩
    · rw [hnat] at c2 hb
      have C2 := Lib.hid c2
      clear c2 hnat
      by_cases h48 : t.toList = [48]
      · have h2 : Hid (intB (strL s) = false) := Lib.hid (by rw [hb.out, ← HT.out, (toList_48 t).1 h48]; rfl)
        go_enter Tryd.func30, Tryd.ntmps30
        go_wp2_with (first
          | (go_at_call 33; refine (C1.out _).mono ?_; rintro _ _ ⟨rfl, rfl⟩)
          | (go_at_call 35; refine (C2.out _).mono ?_; rintro _ _ ⟨rfl, rfl⟩))
        go_ret
        exact ⟨ret_bool' h2.out.symm, rfl⟩
      · have h2 : Hid (intB (strL s) = true) := Lib.hid (by rw [hb.out, ← HT.out, decide_eq_false (fun h => h48 ((toList_48 t).2 h))]; rfl)
        have h3 : (t.toList == [48]) = false := by simpa using h48
        go_enter Tryd.func30, Tryd.ntmps30
        go_wp2_with (first
          | (go_at_call 33; refine (C1.out _).mono ?_; rintro _ _ ⟨rfl, rfl⟩)
          | (go_at_call 35; refine (C2.out _).mono ?_; rintro _ _ ⟨rfl, rfl⟩))
        go_ret
        exact ⟨ret_bool' h2.out.symm, rfl⟩
  · have hb : Hid (intB (strL s) = natB (strL s)) := Lib.hid (by unfold intB; rw [if_neg hn])
    have c1 := fun W => cutPre_no s W hn
    have c2 := fun W => isNatural_q s W hs
    have C1 := Lib.hid c1
    clear c1 hn
    cases hnat : natB (strL s)
    all_goals
      rw [hnat] at c2 hb
      have C2 := Lib.hid c2
      clear c2 hnat
      go_enter Tryd.func30, Tryd.ntmps30
      go_wp2_with (first
        | (go_at_call 33; refine (C1.out _).mono ?_; rintro _ _ ⟨rfl, rfl⟩)
        | (go_at_call 35; refine (C2.out _).mono ?_; rintro _ _ ⟨rfl, rfl⟩))
      go_ret
      exact ⟨ret_bool' hb.out.symm, rfl⟩

/-- The ways of parsing an int. -/
theorem pint_ways {s : ByteArray} {v er : Int} (h : pint (strL s) = (v, er)) :
    (intB (strL s) = false ∧ v = 0 ∧ er = 3) ∨
    (intB (strL s) = true ∧ ∃ u, Lib.atoiAll s.data.toList = .ok u ∧ ((u < -4611686018427387904 ∧ v = 0 ∧ er = 6) ∨ (4611686018427387904 < u ∧ v = 0 ∧ er = 6) ∨ (-4611686018427387904 ≤ u ∧ u ≤ 4611686018427387904 ∧ v = u ∧ er = 0))) ∨
    (intB (strL s) = true ∧ Lib.atoiAll s.data.toList = .range ∧ v = 0 ∧ er = 6) := by
  rw [strL_nI] at h ⊢
  obtain ⟨L, hL⟩ : ∃ L, s.data.toList = L := ⟨_, rfl⟩
  rw [hL] at h ⊢
  clear hL
  by_cases hn : (nI L).head? = some 45
  · obtain ⟨r, rfl⟩ : ∃ r, L = 45 :: r := by
      match L, hn with
      | x :: r, hn =>
        simp only [nI, List.map_cons, List.head?_cons, Option.some.injEq] at hn
        exact ⟨r, by congr 1; exact UInt8.toNat_inj.1 (by show x.toNat = 45; omega)⟩
    have ht : (nI (45 :: r)).tail = nI r := rfl
    unfold pint at h
    unfold intB
    rw [if_pos hn, ht] at h ⊢
    cases hnat : natB (nI r)
    · rw [natv_snd, hnat] at h
      simp only [true_or, if_true, Prod.mk.injEq] at h
      exact .inl ⟨rfl, h.1.symm, h.2.symm⟩
    · rw [natv_snd, hnat, natv_fst hnat] at h
      have h0 := vals_ge (nI r) 0 (natB_dgs hnat).1 (by omega)
      by_cases hz : nI r = [48]
      · rw [hz] at h
        have : vals [48] 0 = 0 := by decide
        rw [this, if_pos (.inr (by decide))] at h
        simp only [Prod.mk.injEq] at h
        exact .inl ⟨by rw [decide_eq_true hz]; rfl, h.1.symm, h.2.symm⟩
      · have hv : vals (nI r) 0 ≠ 0 := fun e => hz (vals_zero hnat e)
        obtain ⟨V, hV⟩ : ∃ V, vals (nI r) 0 = V := ⟨_, rfl⟩
        have ha := atoi_neg hnat
        rw [hV] at h h0 hv ha
        rw [if_neg (by simp; omega)] at h
        rw [decide_eq_false hz]
        rcases ha with ⟨a1, a2⟩ | ⟨a1, a2⟩
        · refine .inr (.inl ⟨rfl, _, a2, ?_⟩)
          by_cases hb : 4611686018427387904 < V
          · rw [if_pos (by omega)] at h
            simp only [Prod.mk.injEq] at h
            exact .inl ⟨by omega, h.1.symm, h.2.symm⟩
          · rw [if_neg (by omega)] at h
            simp only [Prod.mk.injEq] at h
            exact .inr (.inr ⟨by omega, by omega, by omega, h.2.symm⟩)
        · rw [if_pos (by omega)] at h
          simp only [Prod.mk.injEq] at h
          exact .inr (.inr ⟨rfl, a2, h.1.symm, h.2.symm⟩)
  · unfold pint at h
    unfold intB
    rw [if_neg hn] at h ⊢
    cases hnat : natB (nI L)
    · rw [natv_snd, hnat] at h
      simp only [if_true, Prod.mk.injEq] at h
      exact .inl ⟨rfl, h.1.symm, h.2.symm⟩
    · rw [natv_snd, hnat, natv_fst hnat] at h
      have h0 := vals_ge (nI L) 0 (natB_dgs hnat).1 (by omega)
      obtain ⟨V, hV⟩ : ∃ V, vals (nI L) 0 = V := ⟨_, rfl⟩
      have ha := atoi_nat hnat
      rw [hV] at h h0 ha
      rw [if_neg (by simp)] at h
      rcases ha with ⟨a1, a2⟩ | ⟨a1, a2⟩
      · refine .inr (.inl ⟨rfl, _, a2, ?_⟩)
        by_cases hb : 4611686018427387904 < V
        · rw [if_pos (by omega)] at h
          simp only [Prod.mk.injEq] at h
          exact .inr (.inl ⟨by omega, h.1.symm, h.2.symm⟩)
        · rw [if_neg (by omega)] at h
          simp only [Prod.mk.injEq] at h
          exact .inr (.inr ⟨by omega, by omega, by omega, h.2.symm⟩)
      · rw [if_pos (by omega)] at h
        simp only [Prod.mk.injEq] at h
        exact .inr (.inr ⟨rfl, a2, h.1.symm, h.2.symm⟩)

theorem parseInt_b (s : ByteArray) (v er : Int) (w : World) (LL : Lay6 w) (hs : s.size ≤ 2000) (h : pint (strL s) = (v, er)) :
    Calls Tryd.prog 11 #[.string s] w fun e w' => e = .returned (.tuple #[.int .i64 v, .int .i64 er]) ∧ Below w.heap.size w w' := by
  have c1 := fun W => isInteger_q s W (by omega)
  have HL := Lib.hid LL
  clear LL
  rcases pint_ways h with ⟨hi, rfl, rfl⟩ | ⟨hi, u, ha, hu⟩ | ⟨hi, ha, rfl, rfl⟩
  · rw [hi] at c1
    have C1 := Lib.hid c1
    clear c1 hi h
    go_enter Tryd.func11, Tryd.ntmps11
    go_wp2_with (go_at_call 30; refine (C1.out _).mono ?_; rintro _ _ ⟨rfl, rfl⟩)
    go_ret2
    exact ⟨rfl, Below.refl _ _⟩
  · rw [hi] at c1
    have C1 := Lib.hid c1
    have HA := Lib.hid ha
    clear c1 hi h ha
    rcases hu with ⟨hu, rfl, rfl⟩ | ⟨hu, rfl, rfl⟩ | ⟨h0, h1, rfl, rfl⟩
    all_goals
      go_enter Tryd.func11, Tryd.ntmps11
      go_wp2_with (first
        | (go_at_call 30; refine (C1.out _).mono ?_; rintro _ _ ⟨rfl, rfl⟩)
        | (go_at_call 31; refine (atoi_ok _ _ _ (by omega) HA.out).mono ?_; rintro _ W1 ⟨rfl, B⟩))
      go_ret2
      exact ⟨rfl, B⟩
  · rw [hi] at c1
    have C1 := Lib.hid c1
    have HA := Lib.hid ha
    clear c1 hi h ha
    go_enter Tryd.func11, Tryd.ntmps11
    go_wp2_with (first
      | (go_at_call 30; refine (C1.out _).mono ?_; rintro _ _ ⟨rfl, rfl⟩)
      | (go_at_call 31; refine (atoi_range _ _ HL.out (by omega) HA.out).mono ?_; rintro _ W1 ⟨t, N, rfl, B⟩))
    go_ret2
    exact ⟨rfl, B⟩

theorem padZeros_b (d : ByteArray) (count m : Nat) (z : ByteArray) (w : World) (hm : d.size + m = count) (hc : count ≤ 1000) (hz : strL z = List.replicate m 48 ++ strL d) :
    Calls Tryd.prog 55 #[.string d, .int .i64 count] w fun e w' => e = .returned (.string z) ∧ Below w.heap.size w w' := by
  have hmax : ∀ (ts : Array TypeId) (t : TypeId) (w : World), (Builtin.max_ ts t #[.int .i64 0, .int .i64 ((count : Int) - (d.size : Int))]).run Tryd.prog w = .ok (.int .i64 (m : Int)) w := fun ts t w => by
    simp [Builtin.max_, Builtin.max2]
    split <;> omega
  obtain ⟨y, hy⟩ : ∃ y : ByteArray, strL y = List.replicate m 48 := ⟨strOfNums (List.replicate m 48), strL_of (by intro x hx; rw [List.mem_replicate] at hx; omega)⟩
  have hys : y.size = m := by rw [← strL_len, hy, List.length_replicate]
  have hs1 : y.size ≤ 1000 := by omega
  have hs2 : d.size ≤ 1000 := by omega
  have hs3 : d.size ≤ count := by omega
  have hm1 : m ≤ 1000 := by omega
  have HM := Lib.hid hmax
  have HY := Lib.hid hy
  have HZ : Hid (y ++ d = z) := Lib.hid (str_ext (by rw [strL_append, hy, hz]))
  clear hy hys hm hz HM
  go_enter Tryd.func55, Tryd.ntmps55
  go_wp2_with (go_at_call 74; refine (repeat_b _ _ _ hm1 HY.out).mono ?_; rintro _ W1 ⟨rfl, B⟩)
  go_ret
  exact ⟨ret_str HZ.out, B⟩

end Go.Proofs.YthancgnmbmempaaDoor
