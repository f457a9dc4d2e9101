/- What formatRemainder and FormatFixed of package format return. -/
import Derived.Test.YthancgnmbmempaaDoorG6
namespace Go.Proofs.YthancgnmbmempaaDoor
open Go.RowKit Go.Sort

/-- The digits of f with zeros ahead are the k digits of f. -/
theorem pad_zd (k : Nat) : ∀ f : Nat, f < 10 ^ k → 1 ≤ k → (dg f).length ≤ k ∧ List.replicate (k - (dg f).length) 48 ++ dg f = zd k f := by
  induction k with
  | zero => intro f _ h; omega
  | succ k ih =>
    intro f hf _
    rw [zd_succ]
    by_cases h : f < 10
    · rw [dg_lt h, show f / 10 = 0 by omega, show f % 10 = f by omega]
      refine ⟨by simp, ?_⟩
      rw [List.length_singleton, Nat.add_sub_cancel]
      congr 1
      rcases Nat.eq_zero_or_pos k with rfl | hk
      · rw [zd_zero]; rfl
      · have h1 := ih 0 (Nat.pow_pos (by omega)) hk
        rw [← h1.2, dg_lt (by omega)]
        show List.replicate k (48 : Int) = List.replicate (k - 1) 48 ++ [48]
        rw [← List.replicate_succ']
        congr 1
        omega
    · rw [dg_ge (by omega)]
      have hk : 1 ≤ k := by
        rcases Nat.eq_zero_or_pos k with rfl | hk
        · simp at hf; omega
        · exact hk
      have h1 := ih (f / 10) (by rw [Nat.pow_succ] at hf; omega) hk
      rw [List.length_append, List.length_singleton]
      refine ⟨by omega, ?_⟩
      rw [← h1.2, show k + 1 - ((dg (f / 10)).length + 1) = k - (dg (f / 10)).length by omega, List.append_assoc]

theorem fint_nat (f : Nat) : fint (f : Int) = dg f := by unfold fint; rw [if_neg (by omega), Int.toNat_natCast]

set_option maxRecDepth 100000 in
set_option maxHeartbeats 1000000 in
theorem formatRemainder_b (r : Int) (z : ByteArray) (w : World) (LL : Lay6 w) (r0 : 0 ≤ r) (r1 : r ≤ 65535) (hz : strL z = frac r) :
    Calls Tryd.prog 38 #[.int .i64 r] w fun e w' => e = .returned (.string z) ∧ Below w.heap.size w w' := by
  obtain ⟨f, hf, hf10, _, hfr⟩ := frac_zd r0 r1
  obtain ⟨_, k1, k5⟩ := kfirst_ok r0 r1
  obtain ⟨K, hK⟩ : ∃ K, kfirst r = K := ⟨_, rfl⟩
  have hK0 : Hid (kfr r (5 - 1) 1 = K) := Lib.hid hK
  rw [hK] at hf hf10 hfr k1 k5
  have hpad := pad_zd K f hf10 k1
  obtain ⟨d, hd, hdl⟩ := dg_str f
  have hfl : f ≤ 100000 := by
    have := Nat.pow_le_pow_right (n := 10) (by omega) k5
    have e : (10 : Nat) ^ 5 = 100000 := by decide
    omega
  have e1 := fun W L => formatInt_b (f : Int) W L (by omega) (by omega)
  rw [fint_nat, hd] at e1
  have e2 := fun W => padZeros_b d K (K - d.size) z W (by have := hpad.1; rw [← hdl, strL_len] at this; omega) (by omega) (by rw [hz, hfr, ← hpad.2, ← hdl, strL_len])
  have E1 := Lib.hid e1
  have E2 := Lib.hid e2
  have HF := Lib.hid hf
  have HL := Lib.hid LL
  clear hK hfr hpad hd hdl e1 e2 hf hz hf10 LL
  go_enter Tryd.func38, Tryd.ntmps38
  go_wp2
  go_loop [3] (fun i => ∃ k : Nat, 1 ≤ k ∧ k ≤ 5 ∧ i = .int .i64 k ∧ kfr r (5 - k) k = K) (fun i => 6 - (intOf i).toNat)
  case atStart => exact ⟨1, by omega, by omega, rfl, hK0.out⟩
  case round =>
    obtain ⟨k, kk1, kk5, rfl, hk⟩ := hrel
    have HK := Lib.hid hk
    have c1 := fun W => powerOfTen_q k W (by omega)
    have c2 := fun W => isExact_q r k W kk1 kk5 r0 r1
    have c3 := fun W => toDigits_q r k W kk1 kk5 r0 r1
    obtain ⟨P, hPk⟩ : ∃ P, p10 k = P := ⟨_, rfl⟩
    rw [hPk] at c1 c2 c3
    have C1 := Lib.hid c1
    clear hk c1 hPk
    by_cases hlt : k < 5
    · cases ho : kok r k
      · rw [ho] at c2
        have C2 := Lib.hid c2
        have HN := Lib.hid (kfr_on HK hlt ho)
        clear c2 c3 ho
        go_wp2_with (first
          | (go_at_call 64; refine (C1.out _).mono ?_; rintro _ _ ⟨rfl, rfl⟩)
          | (go_at_call 65; refine (C2.out _).mono ?_; rintro _ _ ⟨rfl, rfl⟩))
        go_round
        case rel => exact ⟨k + 1, by omega, by omega, by go_num, HN.out⟩
        case measure => simp [intOf]; omega
      · obtain rfl := kfr_here HK kk5 ho
        rw [ho] at c2
        rw [HF.out] at c3
        have C2 := Lib.hid c2
        have C3 := Lib.hid c3
        clear c2 c3 ho HF
        go_wp2_with (first
          | (go_at_call 64; refine (C1.out _).mono ?_; rintro _ _ ⟨rfl, rfl⟩)
          | (go_at_call 65; refine (C2.out _).mono ?_; rintro _ _ ⟨rfl, rfl⟩)
          | (go_at_call 66; refine (C3.out _).mono ?_; rintro _ _ ⟨rfl, rfl⟩)
          | (go_at_call 12; refine (E1.out _ HL.out).mono ?_; rintro _ W1 ⟨rfl, B1⟩)
          | (go_at_call 55; refine (E2.out _).mono ?_; rintro _ W2 ⟨rfl, B2⟩))
        go_ret
        exact ⟨rfl, bon B1 B2⟩
    · obtain rfl : k = 5 := by omega
      have ho := kok_5 r0 r1
      obtain rfl := kfr_here HK kk5 ho
      rw [HF.out] at c3
      have C3 := Lib.hid c3
      clear c2 c3 ho HF
      go_wp2_with (first
        | (go_at_call 64; refine (C1.out _).mono ?_; rintro _ _ ⟨rfl, rfl⟩)
        | (go_at_call 66; refine (C3.out _).mono ?_; rintro _ _ ⟨rfl, rfl⟩)
        | (go_at_call 12; refine (E1.out _ HL.out).mono ?_; rintro _ W1 ⟨rfl, B1⟩)
        | (go_at_call 55; refine (E2.out _).mono ?_; rintro _ W2 ⟨rfl, B2⟩))
      go_ret
      exact ⟨rfl, bon B1 B2⟩

set_option maxRecDepth 100000 in
theorem formatPos_b (X : Nat) (z : ByteArray) (w : World) (LL : Lay6 w) (hX : X ≤ 536870911) (hz : strL z = body X) :
    Calls Tryd.prog 14 #[.int .i64 X] w fun e w' => e = .returned (.string z) ∧ Below w.heap.size w w' := by
  obtain ⟨r, hr⟩ : ∃ r : Int, r = (X : Int) % 65536 := ⟨_, rfl⟩
  obtain ⟨d1, ha, hd1⟩ := dg_str (X / 65536)
  have hl1 : d1.size ≤ 20 := by rw [← strL_len, hd1]; exact dg_len64 _ (by omega)
  obtain ⟨d2, hd2⟩ : ∃ d : ByteArray, strL d = frac ((X % 65536 : Nat) : Int) := by
    obtain ⟨f, _, _, _, e⟩ := frac_zd (r := ((X % 65536 : Nat) : Int)) (by omega) (by omega)
    refine ⟨strOfNums (frac ((X % 65536 : Nat) : Int)), strL_of fun y hy => ?_⟩
    rw [e] at hy
    have := dg_rng _ y (List.mem_of_mem_tail hy)
    omega
  have hl2 : d2.size ≤ 20 := by
    obtain ⟨f, _, hf, _, e⟩ := frac_zd (r := ((X % 65536 : Nat) : Int)) (by omega) (by omega)
    obtain ⟨_, k1, k5⟩ := kfirst_ok (r := ((X % 65536 : Nat) : Int)) (by omega) (by omega)
    rw [← strL_len, hd2, e, zd_len _ _ hf]
    omega
  have e1 := fun W L => formatInt_b ((X / 65536 : Nat) : Int) W L (by omega) (by omega)
  rw [fint_nat, ha] at e1
  have e2 := fun W L => formatRemainder_b ((X % 65536 : Nat) : Int) d2 W L (by omega) (by omega) hd2
  have HZ : Hid (d1 ++ ⟨#[46]⟩ ++ d2 = z) := Lib.hid (str_ext (by rw [strL_append, strL_append, hd1, hd2, hz]; unfold body; simp [strL]))
  have q1 : (X : Int) / 65536 = ((X / 65536 : Nat) : Int) := by omega
  have q2 : (X : Int) % 65536 = ((X % 65536 : Nat) : Int) := by omega
  rw [← q1] at e1
  rw [← q2] at e2
  have E1 := Lib.hid e1
  have E2 := Lib.hid e2
  have HL := Lib.hid LL
  clear ha hd1 hd2 e1 e2 hz LL q1 q2 hr
  go_enter Tryd.func14, Tryd.ntmps14
  go_wp2_with (first
    | (go_at_call 12; refine (E1.out _ HL.out).mono ?_; rintro _ W1 ⟨rfl, B1⟩)
    | (go_at_call 38; refine (E2.out _ (HL.out.on B1)).mono ?_; rintro _ W2 ⟨rfl, B2⟩))
  go_ret
  exact ⟨ret_str HZ.out, bon B1 B2⟩

set_option maxRecDepth 100000 in
theorem formatFixed_b (x : Int) (out : ByteArray) (w : World) (LL : Lay6 w) (h0 : -9223372036854775808 ≤ x) (h1 : x ≤ 9223372036854775807) (ho : strL out = ffix x) :
    Calls Tryd.prog 14 #[.int .i64 x] w fun e w' => e = .returned (.string out) ∧ Below w.heap.size w w' := by
  by_cases hx : x < -536870911 ∨ 536870911 < x
  · have e : out = ⟨#[]⟩ := str_ext (by rw [ho, ffix, if_pos hx, strL_empty])
    subst e
    clear ho
    rcases hx with hx | hx
    · go_enter Tryd.func14, Tryd.ntmps14
      go_wp2_with fail
      go_ret
      exact ⟨rfl, Below.refl _ _⟩
    · have hx2 : -536870911 ≤ x := by omega
      go_enter Tryd.func14, Tryd.ntmps14
      go_wp2_with fail
      go_ret
      exact ⟨rfl, Below.refl _ _⟩
  · by_cases hn : x < 0
    · have hb := ffix_neg (x := x) (by omega) hn
      obtain ⟨z, hz⟩ : ∃ z : ByteArray, strL z = body x.natAbs := ⟨out.extract 1 out.size, by rw [tail_str, ho, hb, List.tail_cons]⟩
      have hzl : z.size ≤ 1000 := by
        rw [← strL_len, hz]
        obtain ⟨f, _, hf, _, e⟩ := frac_zd (r := ((x.natAbs % 65536 : Nat) : Int)) (by omega) (by omega)
        obtain ⟨_, k1, k5⟩ := kfirst_ok (r := ((x.natAbs % 65536 : Nat) : Int)) (by omega) (by omega)
        unfold body
        rw [e, List.length_append, List.length_cons, zd_len _ _ hf]
        have := dg_len64 (x.natAbs / 65536) (by omega)
        omega
      have c := fun W L => formatPos_b x.natAbs z W L (by omega) hz
      have q : ((x.natAbs : Nat) : Int) = -x := by omega
      rw [q] at c
      have C := Lib.hid c
      have HZ : Hid (⟨#[45]⟩ ++ z = out) := Lib.hid (str_ext (by rw [strL_append, hz, ho, hb]; rfl))
      have HL := Lib.hid LL
      have x0 : -536870911 ≤ x := by omega
      have x1 : x ≤ 536870911 := by omega
      clear hb hz c q ho LL hx
      go_enter Tryd.func14, Tryd.ntmps14
      go_wp2_with (go_at_call 14; refine (C.out _ HL.out).mono ?_; rintro _ W1 ⟨rfl, B1⟩)
      go_ret
      exact ⟨ret_str HZ.out, B1⟩
    · have c := formatPos_b x.natAbs out w LL (by omega) (by rw [ho, ffix_pos (by omega) (by omega)])
      rw [show ((x.natAbs : Nat) : Int) = x by omega] at c
      exact c

end Go.Proofs.YthancgnmbmempaaDoor
