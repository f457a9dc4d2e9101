/- What FormatFixed of the reference returns. -/
import Derived.Test.YthancgnmbmempaaDoorF4
import Derived.Test.YthancgnmbmempaaDoorFixedB
namespace Go.Proofs.YthancgnmbmempaaDoor
open Go.RowKit Go.Sort

/-- The k digits of the remainder r; whether they will do. -/
def fdig (r : Int) (k : Nat) : Int := rda (r * p10 k) 65536
def kok (r : Int) (k : Nat) : Bool := decide (fdig r k < p10 k) && decide (rda (fdig r k * 65536) (p10 k) = r)
/-- The first number of digits from k on that will do, at most n further on. -/
def kfr (r : Int) : Nat → Nat → Nat
  | 0, k => k
  | n + 1, k => if kok r k = true then k else kfr r n (k + 1)
def kfirst (r : Int) : Nat := kfr r 4 1
/-- The digits behind the point. -/
def frac (r : Int) : List Int := (dg (p10 (kfirst r) + fdig r (kfirst r)).toNat).tail
/-- The decimal form of a fixed-point number. -/
def ffix (x : Int) : List Int :=
  if x < -536870911 ∨ 536870911 < x then [] else (if x < 0 then [45] else []) ++ dg (x.natAbs / 65536) ++ [46] ++ frac ((x.natAbs % 65536 : Nat) : Int)

theorem p10_1 : p10 1 = 10 := by decide
theorem p10_2 : p10 2 = 100 := by decide
theorem p10_3 : p10 3 = 1000 := by decide
theorem p10_4 : p10 4 = 10000 := by decide
theorem p10_5 : p10 5 = 100000 := by decide

theorem p10_small {k : Nat} (h1 : 1 ≤ k) (h5 : k ≤ 5) : p10 k = 10 ∨ p10 k = 100 ∨ p10 k = 1000 ∨ p10 k = 10000 ∨ p10 k = 100000 := by
  have : k = 1 ∨ k = 2 ∨ k = 3 ∨ k = 4 ∨ k = 5 := by omega
  rcases this with rfl | rfl | rfl | rfl | rfl
  · exact .inl p10_1
  · exact .inr (.inl p10_2)
  · exact .inr (.inr (.inl p10_3))
  · exact .inr (.inr (.inr (.inl p10_4)))
  · exact .inr (.inr (.inr (.inr p10_5)))

theorem fdig_is {r : Int} {k : Nat} (h1 : 1 ≤ k) (h5 : k ≤ 5) (r0 : 0 ≤ r) (r1 : r ≤ 65535) : fdig r k = (2 * (r * p10 k) + 65536) / 131072 ∧ 0 ≤ fdig r k ∧ fdig r k ≤ p10 k := by
  unfold fdig
  rcases p10_small h1 h5 with e | e | e | e | e <;> (rw [e, rda_in _ _ (by omega) (by omega) (by omega) (by omega), rdv, if_pos (by omega)]; omega)

/-- Five digits always do. -/
theorem kok_5 {r : Int} (r0 : 0 ≤ r) (r1 : r ≤ 65535) : kok r 5 = true := by
  obtain ⟨h, h0, h1⟩ := fdig_is (k := 5) (by omega) (by omega) r0 r1
  rw [p10_5] at h h1
  unfold kok
  rw [p10_5, rda_in _ _ (by omega) (by omega) (by omega) (by omega), rdv, if_pos (by omega)]
  simp only [Bool.and_eq_true, decide_eq_true_eq]
  omega

theorem kfr_ok {r : Int} (r0 : 0 ≤ r) (r1 : r ≤ 65535) : ∀ n k : Nat, n + k = 5 → 1 ≤ k → kok r (kfr r n k) = true ∧ k ≤ kfr r n k ∧ kfr r n k ≤ 5
  | 0, k, h, _ => by
    obtain rfl : k = 5 := by omega
    exact ⟨kok_5 r0 r1, Nat.le_refl _, Nat.le_refl _⟩
  | n + 1, k, h, hk => by
    unfold kfr
    by_cases ho : kok r k = true
    · rw [if_pos ho]; exact ⟨ho, Nat.le_refl _, by omega⟩
    · rw [if_neg ho]
      have := kfr_ok r0 r1 n (k + 1) (by omega) (by omega)
      exact ⟨this.1, by omega, this.2.2⟩

theorem kfirst_ok {r : Int} (r0 : 0 ≤ r) (r1 : r ≤ 65535) : kok r (kfirst r) = true ∧ 1 ≤ kfirst r ∧ kfirst r ≤ 5 := kfr_ok r0 r1 4 1 rfl (Nat.le_refl _)

theorem rdigits_s (z : Int) (w : World) (h0 : 0 ≤ z) (h1 : z < 18446744073709551616) :
    Calls Tryd.prog 43 #[.int .u64 z] w fun e w' => e = .returned (.string (strOfNums (dg z.toNat))) ∧ Below w.heap.size w w' := by
  have h := rdigits_b z.toNat (strOfNums (dg z.toNat)) w (strL_of fun y hy => by have := dg_rng _ y hy; omega) (by omega)
  rwa [show ((z.toNat : Nat) : Int) = z by omega] at h

theorem dg_str (u : Nat) : ∃ ds, strOfNums (dg u) = ds ∧ strL ds = dg u := ⟨_, rfl, strL_of (x := dg u) fun y hy => by have := dg_rng u y hy; omega⟩

theorem kfr_on {r : Int} {k K : Nat} (h : Hid (kfr r (5 - k) k = K)) (h5 : k < 5) (ho : kok r k = false) : kfr r (5 - (k + 1)) (k + 1) = K := by
  have e : 5 - k = (5 - (k + 1)) + 1 := by omega
  rw [← h.out, e, kfr, if_neg (by simp [ho])]

theorem kfr_here {r : Int} {k K : Nat} (h : Hid (kfr r (5 - k) k = K)) (h5 : k ≤ 5) (ho : kok r k = true) : k = K := by
  rw [← h.out]
  by_cases e : k = 5
  · subst e; rfl
  · have e : 5 - k = (5 - (k + 1)) + 1 := by omega
    rw [e, kfr, if_pos ho]

/-- What lies behind the loop's round that will do. -/
theorem fix_end {r P f : Int} {k K : Nat} {d2 : ByteArray} (hK : k = K) (hP : p10 k = P) (hf : fdig r k = f) (hd : strL d2 = dg (P + f).toNat) : strL (d2.extract 1 d2.size) = (dg (p10 K + fdig r K).toNat).tail := by
  subst hK
  rw [strL_extract, List.take_of_length_le (by rw [List.length_drop, strL_len]; omega), List.drop_one, hd, hP, hf]

set_option maxRecDepth 100000 in
set_option maxHeartbeats 2000000 in
theorem fix_loop (x : Int) (neg : Bool) (X : Nat) (out : ByteArray) (w : World) (hx : x = if neg = true then -(X : Int) else X) (hn : neg = true → 0 < X) (hX : X ≤ 536870911)
    (ho : strL out = (if neg = true then [45] else []) ++ dg (X / 65536) ++ [46] ++ frac ((X % 65536 : Nat) : Int)) :
    Calls Tryd.prog 20 #[.int .i64 x] w fun e w' => e = .returned (.string out) ∧ Below w.heap.size w w' := by
  have hsx := fun W => rsaturate_b x W
  rw [sat_id x (by rw [hx]; split <;> omega) (by rw [hx]; split <;> omega)] at hsx
  have HSX := Lib.hid hsx
  obtain ⟨r, hr⟩ : ∃ r : Int, r = (X : Int) % 65536 := ⟨_, rfl⟩
  have r0 : 0 ≤ r := by omega
  have r1 : r ≤ 65535 := by omega
  obtain ⟨K, hK⟩ : ∃ K, kfirst r = K := ⟨_, rfl⟩
  have hK0 : Hid (kfr r (5 - 1) 1 = K) := Lib.hid hK
  have HO : Hid (strL out = (if neg = true then [45] else []) ++ dg (X / 65536) ++ [46] ++ (dg (p10 K + fdig r K).toNat).tail) := Lib.hid (by
    rw [ho, show ((X % 65536 : Nat) : Int) = r by omega]
    unfold frac
    rw [hK])
  obtain ⟨d1, ha, hd1⟩ := dg_str (X / 65536)
  have hl1 : d1.size ≤ 20 := by rw [← strL_len, hd1]; exact dg_len64 _ (by omega)
  have HD1 := Lib.hid hd1
  have HA : Hid (strOfNums (dg ((X : Int) / 65536).toNat) = d1) := Lib.hid (by rw [← ha]; congr 2)
  subst hr
  clear hsx ha hd1 hK ho
  cases neg
  all_goals
    simp only [Bool.false_eq_true, if_false, if_true] at hx
    subst hx
    first | (have hxp := hn rfl) | skip
    clear hn
    go_enter Tryd.func20, Tryd.ntmps20
    go_wp2_with (go_at_call 48; refine (HSX.out _).mono ?_; rintro _ W1 ⟨rfl, B⟩)
    go_loopw [5] (fun i wr => ∃ k : Nat, 1 ≤ k ∧ k ≤ 5 ∧ i = .int .i64 k ∧ kfr ((X : Int) % 65536) (5 - k) k = K ∧ Below w.heap.size w wr) (fun i _ => 6 - (intOf i).toNat)
    case atStart => exact ⟨1, by omega, by omega, rfl, hK0.out, B⟩
    case round =>
      clear B
      obtain ⟨k, k1, k5, rfl, hk, BB⟩ := hrel
      have HK := Lib.hid hk
      have hF := fdig_is k1 k5 r0 r1
      have hP := p10_small k1 k5
      have c1 := fun W => rpower_b k W (by omega)
      have c2 : rda (((X : Int) % 65536) * p10 k) 65536 = fdig ((X : Int) % 65536) k := rfl
      have hb0 : 0 ≤ ((X : Int) % 65536) * p10 k := Int.mul_nonneg r0 (by omega)
      have hb1 : ((X : Int) % 65536) * p10 k ≤ 65535 * p10 k := Int.mul_le_mul_of_nonneg_right r1 (by omega)
      have hkk : kok ((X : Int) % 65536) k = (decide (fdig ((X : Int) % 65536) k < p10 k) && decide (rda (fdig ((X : Int) % 65536) k * 65536) (p10 k) = ((X : Int) % 65536))) := rfl
      obtain ⟨P, hPk⟩ : ∃ P, p10 k = P := ⟨_, rfl⟩
      obtain ⟨f, hfk⟩ : ∃ f, fdig ((X : Int) % 65536) k = f := ⟨_, rfl⟩
      rw [hPk, hfk] at hkk hF
      rw [hPk, hfk] at c2
      rw [hPk] at c1 hP hb0 hb1
      obtain ⟨g, hg⟩ : ∃ g, rda (f * 65536) P = g := ⟨_, rfl⟩
      rw [hg] at hkk
      obtain ⟨f0, f1⟩ := hF.2
      have P0 : 10 ≤ P := by omega
      have P1 : P ≤ 100000 := by omega
      have C1 := Lib.hid c1
      have C2 := Lib.hid c2
      have C3 := Lib.hid hg
      have HKK := Lib.hid hkk
      have HP := Lib.hid hPk
      have HF := Lib.hid hfk
      clear hk hF hP c1 c2 hkk hPk hfk hg
      have hk6 : (k : Int) < 6 := by omega
      by_cases hfP : f < P
      · by_cases hgr : g = (X : Int) % 65536
        · subst hgr
          have hKK := kfr_here HK k5 (by rw [HKK.out, decide_eq_true hfP, decide_eq_true rfl]; rfl)
          obtain ⟨d2, he2, hd2⟩ := dg_str (P + f).toNat
          have hl2 : d2.size ≤ 20 := by rw [← strL_len, hd2]; exact dg_len64 _ (by omega)
          have hl3 : 1 ≤ d2.size := by rw [← strL_len, hd2]; exact dg_pos _
          have HD2 := Lib.hid he2
          have HE := Lib.hid (fix_end hKK HP.out HF.out hd2)
          have ge : (((X : Int) % 65536) == ((X : Int) % 65536)) = true := by simp
          clear hd2 he2 hKK
          go_wp2_with (first
            | (go_at_call 47; refine (C1.out _).mono ?_; rintro _ _ ⟨rfl, B⟩; replace BB := bon BB B; clear B)
            | (go_at_call 46; refine (rrounddiv_b _ _ _).mono ?_; rintro _ _ ⟨rfl, B⟩; (first | rw [C2.out] | rw [C3.out]); replace BB := bon BB B; clear B)
            | (go_at_call 43; refine (rdigits_s _ _ (by omega) (by omega)).mono ?_; rintro _ _ ⟨rfl, B⟩; (first | rw [HA.out] | rw [HD2.out]); replace BB := bon BB B; clear B))
          go_ret
          exact ⟨ret_str (str_ext (by rw [HO.out, strL_append, strL_append, strL_append, HD1.out, HE.out]; rfl)), BB⟩
        · have hge : (g == ((X : Int) % 65536)) = false := by simpa using hgr
          have ho : kok ((X : Int) % 65536) k = false := by rw [HKK.out, decide_eq_false hgr]; simp
          have hk5 : k < 5 := by
            rcases Nat.lt_or_ge k 5 with h | h
            · exact h
            · obtain rfl : k = 5 := by omega
              rw [kok_5 r0 r1] at ho
              cases ho
          have HN := Lib.hid (kfr_on HK hk5 ho)
          clear ho hgr
          go_wp2_with (first
            | (go_at_call 47; refine (C1.out _).mono ?_; rintro _ _ ⟨rfl, B⟩; replace BB := bon BB B; clear B)
            | (go_at_call 46; refine (rrounddiv_b _ _ _).mono ?_; rintro _ _ ⟨rfl, B⟩; (first | rw [C2.out] | rw [C3.out]); replace BB := bon BB B; clear B))
          go_roundw
          case rel => exact ⟨k + 1, by omega, by omega, by go_num, HN.out, BB⟩
          case measure => simp [intOf]; omega
      · have ho : kok ((X : Int) % 65536) k = false := by rw [HKK.out, decide_eq_false hfP]; simp
        have hk5 : k < 5 := by
          rcases Nat.lt_or_ge k 5 with h | h
          · exact h
          · obtain rfl : k = 5 := by omega
            rw [kok_5 r0 r1] at ho
            cases ho
        have HN := Lib.hid (kfr_on HK hk5 ho)
        clear ho
        go_wp2_with (first
          | (go_at_call 47; refine (C1.out _).mono ?_; rintro _ _ ⟨rfl, B⟩; replace BB := bon BB B; clear B)
          | (go_at_call 46; refine (rrounddiv_b _ _ _).mono ?_; rintro _ _ ⟨rfl, B⟩; (first | rw [C2.out] | rw [C3.out]); replace BB := bon BB B; clear B))
        go_roundw
        case rel => exact ⟨k + 1, by omega, by omega, by go_num, HN.out, BB⟩
        case measure => simp [intOf]; omega

set_option maxRecDepth 100000 in
set_option maxHeartbeats 1000000 in
theorem rformatFixed_b (x : Int) (out : ByteArray) (w : World) (h0 : -9223372036854775808 ≤ x) (h1 : x ≤ 9223372036854775807) (ho : strL out = ffix x) :
    Calls Tryd.prog 20 #[.int .i64 x] w fun e w' => e = .returned (.string out) ∧ Below w.heap.size w w' := by
  by_cases hx : x < -536870911 ∨ 536870911 < x
  · have e : out = ⟨#[]⟩ := str_ext (by rw [ho, ffix, if_pos hx, strL_empty])
    subst e
    have hne : (x != sat x) = true := by
      have := sat_bd x
      simp
      omega
    go_enter Tryd.func20, Tryd.ntmps20
    go_wp2_with (go_at_call 48; refine (rsaturate_b _ _).mono ?_; rintro _ W1 ⟨rfl, B⟩)
    go_ret
    exact ⟨rfl, B⟩
  · refine fix_loop x (decide (x < 0)) x.natAbs out w ?_ (by simp; omega) (by omega) ?_
    · by_cases hn : x < 0
      · simp only [hn, decide_true, if_true]; omega
      · simp only [hn, decide_false, Bool.false_eq_true, if_false]; omega
    · rw [ho, ffix, if_neg hx]
      by_cases hn : x < 0 <;> simp [hn]

end Go.Proofs.YthancgnmbmempaaDoor
