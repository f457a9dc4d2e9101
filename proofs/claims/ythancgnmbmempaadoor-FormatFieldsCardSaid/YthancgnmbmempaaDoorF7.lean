/- What ParseFixed of the reference returns. -/
import Derived.Test.YthancgnmbmempaaDoorF6
import Derived.Test.YthancgnmbmempaaDoorF3
namespace Go.Proofs.YthancgnmbmempaaDoor
open Go.RowKit Go.Sort

/-- The fixed-point number of a decimal form behind its sign; the error. -/
def pfx (neg : Bool) (L : List Int) : Int × Int :=
  if pnt L = L.length then (0, 3)
  else if (natv (L.take (pnt L))).2 = false ∨ (numb (L.drop (pnt L + 1))).2 = false ∨ 5 < L.length - pnt L - 1 then (0, 3)
  else if 536870911 < (natv (L.take (pnt L))).1 then (0, 6)
  else if neg = true ∧ (natv (L.take (pnt L))).1 * 65536 + rda ((numb (L.drop (pnt L + 1))).1 * 65536) (p10 (L.length - pnt L - 1)) = 0 then (0, 3)
  else if 536870911 < (natv (L.take (pnt L))).1 * 65536 + rda ((numb (L.drop (pnt L + 1))).1 * 65536) (p10 (L.length - pnt L - 1)) then (0, 6)
  else if neg = true then (-((natv (L.take (pnt L))).1 * 65536 + rda ((numb (L.drop (pnt L + 1))).1 * 65536) (p10 (L.length - pnt L - 1))), 0)
  else ((natv (L.take (pnt L))).1 * 65536 + rda ((numb (L.drop (pnt L + 1))).1 * 65536) (p10 (L.length - pnt L - 1)), 0)
/-- Parsing a fixed-point number: it, the error. -/
def pfix (L : List Int) : Int × Int := if L.head? = some 45 then pfx true L.tail else pfx false L

theorem capn_le {n d : Int} : capn n d ≤ n * 10 + d := by
  unfold capn; split <;> omega

theorem rnum_room (l : List Int) : ∀ n : Int, 0 ≤ n → n ≤ 4611686018427387905 → (rnum l n).2 = true → (rnum l n).1 + 1 ≤ (n + 1) * p10 l.length := by
  induction l with
  | nil => intro n h0 h1 _; simp [rnum_nil, p10]
  | cons x r ih =>
    intro n h0 h1 h2
    by_cases h : x < 48 ∨ 57 < x
    · rw [rnum_no h] at h2; simp at h2
    · rw [rnum_on h] at h2 ⊢
      have hc := capn_rng (d := x - 48) h0 h1 (by omega) (by omega)
      have hl := capn_le (n := n) (d := x - 48)
      have := ih _ hc.1 hc.2 h2
      rw [List.length_cons, p10_succ, Int.mul_comm (p10 _) 10, ← Int.mul_assoc]
      have hp := p10_pos r.length
      have : (capn n (x - 48) + 1) * p10 r.length ≤ ((n + 1) * 10) * p10 r.length := Int.mul_le_mul_of_nonneg_right (by omega) (by omega)
      omega

theorem numb_room {l : List Int} {f : Int} (h : numb l = (f, true)) : 0 ≤ f ∧ f + 1 ≤ p10 l.length ∧ 0 < l.length := by
  have hr := numb_rng l
  rw [h] at hr
  unfold numb at h
  by_cases h2 : (rnum l 0).2 = true
  · rw [if_pos h2] at h
    simp only [Prod.mk.injEq, decide_eq_true_eq] at h
    have := rnum_room l 0 (by omega) (by omega) h2
    simp only at hr
    exact ⟨hr.1, by rw [← h.1]; omega, h.2⟩
  · rw [if_neg h2] at h
    simp at h

theorem pfx_q {f : Int} {k : Nat} (f0 : 0 ≤ f) (f1 : f + 1 ≤ p10 k) (h1 : 1 ≤ k) (h5 : k ≤ 5) : 0 ≤ rda (f * 65536) (p10 k) ∧ rda (f * 65536) (p10 k) ≤ 65536 ∧ f ≤ 99999 := by
  rcases p10_small h1 h5 with e | e | e | e | e <;> (rw [e] at f1 ⊢; rw [rda_in _ _ (by omega) (by omega) (by omega) (by omega), rdv, if_pos (by omega)]; omega)

theorem rpower_e (x : Int) (k : Nat) (w : World) (e : x = k) (hk : k ≤ 18) :
    Calls Tryd.prog 47 #[.int .i64 x] w fun e w' => e = .returned (.int .i64 (p10 k)) ∧ Below w.heap.size w w' := by
  subst e; exact rpower_b k w hk

/-- The ways of it. -/
theorem pfx_ways {neg : Bool} {L : List Int} {v er n f : Int} {ok is : Bool} {a : Nat} (h : pfx neg L = (v, er)) (ha : pnt L = a) (hn : natv (L.take a) = (n, ok)) (hf : numb (L.drop (a + 1)) = (f, is)) :
    (a = L.length ∧ v = 0 ∧ er = 3) ∨
    (a < L.length ∧ ok = false ∧ v = 0 ∧ er = 3) ∨
    (a < L.length ∧ ok = true ∧ is = false ∧ v = 0 ∧ er = 3) ∨
    (a < L.length ∧ ok = true ∧ is = true ∧ a + 6 < L.length ∧ v = 0 ∧ er = 3) ∨
    (a < L.length ∧ ok = true ∧ is = true ∧ L.length ≤ a + 6 ∧ 536870911 < n ∧ v = 0 ∧ er = 6) ∨
    (∃ (k : Nat) (q : Int), a + 1 + k = L.length ∧ 1 ≤ k ∧ k ≤ 5 ∧ ok = true ∧ is = true ∧ 0 ≤ n ∧ n ≤ 536870911 ∧ 0 ≤ f ∧ f ≤ 99999 ∧ rda (f * 65536) (p10 k) = q ∧ 0 ≤ q ∧ q ≤ 65536 ∧
      ((neg = true ∧ n * 65536 + q = 0 ∧ v = 0 ∧ er = 3) ∨ ((neg = true → 0 < n * 65536 + q) ∧ 536870911 < n * 65536 + q ∧ v = 0 ∧ er = 6) ∨
        (neg = true ∧ 0 < n * 65536 + q ∧ n * 65536 + q ≤ 536870911 ∧ v = -(n * 65536 + q) ∧ er = 0) ∨ (neg = false ∧ n * 65536 + q ≤ 536870911 ∧ v = n * 65536 + q ∧ er = 0))) := by
  have hle := pnt_le L
  have hnr := natv_rng (L.take a)
  unfold pfx at h
  rw [ha] at h hle
  rw [hn, hf] at h
  rw [hn] at hnr
  simp only at h hnr
  by_cases c1 : a = L.length
  · rw [if_pos c1] at h
    simp only [Prod.mk.injEq] at h
    exact .inl ⟨c1, h.1.symm, h.2.symm⟩
  rw [if_neg c1] at h
  by_cases c2 : ok = false ∨ is = false ∨ 5 < L.length - a - 1
  · rw [if_pos c2] at h
    simp only [Prod.mk.injEq] at h
    cases ok
    · exact .inr (.inl ⟨by omega, rfl, h.1.symm, h.2.symm⟩)
    · cases is
      · exact .inr (.inr (.inl ⟨by omega, rfl, rfl, h.1.symm, h.2.symm⟩))
      · simp only [Bool.true_eq_false, false_or] at c2
        exact .inr (.inr (.inr (.inl ⟨by omega, rfl, rfl, by omega, h.1.symm, h.2.symm⟩)))
  rw [if_neg c2] at h
  obtain ⟨rfl, rfl, hk⟩ : ok = true ∧ is = true ∧ ¬ 5 < L.length - a - 1 := by
    cases ok <;> cases is <;> simp_all
  clear c2
  by_cases c3 : 536870911 < n
  · rw [if_pos c3] at h
    simp only [Prod.mk.injEq] at h
    exact .inr (.inr (.inr (.inr (.inl ⟨by omega, rfl, rfl, by omega, c3, h.1.symm, h.2.symm⟩))))
  rw [if_neg c3] at h
  have hr := numb_room hf
  rw [List.length_drop] at hr
  obtain ⟨k, hkk⟩ : ∃ k, L.length - a - 1 = k := ⟨_, rfl⟩
  rw [show L.length - (a + 1) = k by omega] at hr
  rw [hkk] at h hk
  have hq := pfx_q hr.1 hr.2.1 (by omega) (by omega)
  obtain ⟨q, e⟩ : ∃ q, rda (f * 65536) (p10 k) = q := ⟨_, rfl⟩
  rw [e] at h hq
  refine .inr (.inr (.inr (.inr (.inr ⟨k, q, by omega, by omega, by omega, rfl, rfl, hnr.1, by omega, hr.1, hq.2.2, e, hq.1, hq.2.1, ?_⟩))))
  cases neg
  · simp only [Bool.false_eq_true, false_and, if_false] at h
    split at h <;> simp only [Prod.mk.injEq] at h
    · exact .inr (.inl ⟨by simp, by omega, h.1.symm, h.2.symm⟩)
    · exact .inr (.inr (.inr ⟨rfl, by omega, h.1.symm, h.2.symm⟩))
  · simp only [true_and, if_true] at h
    split at h
    · simp only [Prod.mk.injEq] at h
      exact .inl ⟨rfl, by omega, h.1.symm, h.2.symm⟩
    · split at h <;> simp only [Prod.mk.injEq] at h
      · exact .inr (.inl ⟨fun _ => by omega, by omega, h.1.symm, h.2.symm⟩)
      · exact .inr (.inr (.inl ⟨rfl, by omega, by omega, h.1.symm, h.2.symm⟩))

set_option maxRecDepth 100000 in
set_option maxHeartbeats 2000000 in
theorem rparseFixed_neg (s : ByteArray) (v er : Int) (w : World) (hs : s.size ≤ 9223372036854775807) (hpos : 0 < s.size) (hx : (((s[0]'hpos).toNat : Int) == 45) = true) (h : pfx true (strL (s.extract 1 s.size)) = (v, er)) :
    Calls Tryd.prog 19 #[.string s] w fun e w' => e = .returned (.tuple #[.int .i64 v, .int .i64 er]) ∧ Below w.heap.size w w' := by
  have hpi : (0 : Int) < (s.size : Int) := by omega
  have BB : Below w.heap.size w w := Below.refl _ _
  have hsz : (s.extract 1 s.size).size = (s.size - 1) := by rw [ByteArray.size_extract]; omega
  obtain ⟨a, ha⟩ : ∃ a, pnt (strL (s.extract 1 s.size)) = a := ⟨_, rfl⟩
  have hpt := fun W => rpoint_b (s.extract 1 s.size) W (by omega)
  rw [ha] at hpt
  have hal := pnt_le (strL (s.extract 1 s.size))
  rw [ha, strL_len, hsz] at hal
  have e1 : strL ((s.extract 1 s.size).extract 0 a) = (strL (s.extract 1 s.size)).take a := by rw [strL_extract]; simp
  have e2 : strL ((s.extract 1 s.size).extract (a + 1) (s.size - 1)) = (strL (s.extract 1 s.size)).drop (a + 1) := by rw [show (s.size - 1) = (s.extract 1 s.size).size from hsz.symm, strL_extract, List.take_of_length_le (by rw [List.length_drop, strL_len]; exact Nat.le_refl _)]
  obtain ⟨n, ok, hn⟩ : ∃ n ok, natv ((strL (s.extract 1 s.size)).take a) = (n, ok) := ⟨_, _, rfl⟩
  obtain ⟨f, is, hf⟩ : ∃ f is, numb ((strL (s.extract 1 s.size)).drop (a + 1)) = (f, is) := ⟨_, _, rfl⟩
  have hna := fun W => rnatural_b ((s.extract 1 s.size).extract 0 a) n ok W (by rw [ByteArray.size_extract]; omega) (by rw [e1]; exact hn)
  have hnu := fun W => rnumber_b ((s.extract 1 s.size).extract (a + 1) (s.size - 1)) f is W (by rw [ByteArray.size_extract]; omega) (by rw [e2]; exact hf)
  have hw := pfx_ways h ha hn hf
  rw [strL_len, hsz] at hw
  have HPT := Lib.hid hpt
  have HNA := Lib.hid hna
  have HNU := Lib.hid hnu
  clear h ha hn hf hpt hna hnu e1 e2
  rcases hw with ⟨c, rfl, rfl⟩ | ⟨c, rfl, rfl, rfl⟩ | ⟨c, rfl, rfl, rfl, rfl⟩ | ⟨c, rfl, rfl, ck, rfl, rfl⟩ | ⟨c, rfl, rfl, ck, cn, rfl, rfl⟩ | ⟨k, q, hk, k1, k5, rfl, rfl, n0, n1, f0, f1, hq, q0, q1, hw⟩
  · go_enter Tryd.func19, Tryd.ntmps19
    go_wp2_with (first
      | (go_at_call 44; refine (HPT.out _).mono ?_; rintro _ _ ⟨rfl, B⟩; replace BB := bon BB B; clear B)
      | (go_at_call 42; refine (HNA.out _).mono ?_; rintro _ _ ⟨rfl, B⟩; replace BB := bon BB B; clear B)
      | (go_at_call 45; refine (HNU.out _).mono ?_; rintro _ _ ⟨rfl, B⟩; replace BB := bon BB B; clear B)
      | (go_at_call 47; refine (rpower_e _ k _ (by omega) (by omega)).mono ?_; rintro _ _ ⟨rfl, B⟩; rw [HPK.out]; replace BB := bon BB B; clear B)
      | (go_at_call 46; refine (HRD.out _).mono ?_; rintro _ _ ⟨rfl, B⟩; replace BB := bon BB B; clear B))
    go_ret2
    exact ⟨rfl, BB⟩
  · go_enter Tryd.func19, Tryd.ntmps19
    go_wp2_with (first
      | (go_at_call 44; refine (HPT.out _).mono ?_; rintro _ _ ⟨rfl, B⟩; replace BB := bon BB B; clear B)
      | (go_at_call 42; refine (HNA.out _).mono ?_; rintro _ _ ⟨rfl, B⟩; replace BB := bon BB B; clear B)
      | (go_at_call 45; refine (HNU.out _).mono ?_; rintro _ _ ⟨rfl, B⟩; replace BB := bon BB B; clear B)
      | (go_at_call 47; refine (rpower_e _ k _ (by omega) (by omega)).mono ?_; rintro _ _ ⟨rfl, B⟩; rw [HPK.out]; replace BB := bon BB B; clear B)
      | (go_at_call 46; refine (HRD.out _).mono ?_; rintro _ _ ⟨rfl, B⟩; replace BB := bon BB B; clear B))
    go_ret2
    exact ⟨rfl, BB⟩
  · go_enter Tryd.func19, Tryd.ntmps19
    go_wp2_with (first
      | (go_at_call 44; refine (HPT.out _).mono ?_; rintro _ _ ⟨rfl, B⟩; replace BB := bon BB B; clear B)
      | (go_at_call 42; refine (HNA.out _).mono ?_; rintro _ _ ⟨rfl, B⟩; replace BB := bon BB B; clear B)
      | (go_at_call 45; refine (HNU.out _).mono ?_; rintro _ _ ⟨rfl, B⟩; replace BB := bon BB B; clear B)
      | (go_at_call 47; refine (rpower_e _ k _ (by omega) (by omega)).mono ?_; rintro _ _ ⟨rfl, B⟩; rw [HPK.out]; replace BB := bon BB B; clear B)
      | (go_at_call 46; refine (HRD.out _).mono ?_; rintro _ _ ⟨rfl, B⟩; replace BB := bon BB B; clear B))
    go_ret2
    exact ⟨rfl, BB⟩
  · go_enter Tryd.func19, Tryd.ntmps19
    go_wp2_with (first
      | (go_at_call 44; refine (HPT.out _).mono ?_; rintro _ _ ⟨rfl, B⟩; replace BB := bon BB B; clear B)
      | (go_at_call 42; refine (HNA.out _).mono ?_; rintro _ _ ⟨rfl, B⟩; replace BB := bon BB B; clear B)
      | (go_at_call 45; refine (HNU.out _).mono ?_; rintro _ _ ⟨rfl, B⟩; replace BB := bon BB B; clear B)
      | (go_at_call 47; refine (rpower_e _ k _ (by omega) (by omega)).mono ?_; rintro _ _ ⟨rfl, B⟩; rw [HPK.out]; replace BB := bon BB B; clear B)
      | (go_at_call 46; refine (HRD.out _).mono ?_; rintro _ _ ⟨rfl, B⟩; replace BB := bon BB B; clear B))
    go_ret2
    exact ⟨rfl, BB⟩
  · go_enter Tryd.func19, Tryd.ntmps19
    go_wp2_with (first
      | (go_at_call 44; refine (HPT.out _).mono ?_; rintro _ _ ⟨rfl, B⟩; replace BB := bon BB B; clear B)
      | (go_at_call 42; refine (HNA.out _).mono ?_; rintro _ _ ⟨rfl, B⟩; replace BB := bon BB B; clear B)
      | (go_at_call 45; refine (HNU.out _).mono ?_; rintro _ _ ⟨rfl, B⟩; replace BB := bon BB B; clear B)
      | (go_at_call 47; refine (rpower_e _ k _ (by omega) (by omega)).mono ?_; rintro _ _ ⟨rfl, B⟩; rw [HPK.out]; replace BB := bon BB B; clear B)
      | (go_at_call 46; refine (HRD.out _).mono ?_; rintro _ _ ⟨rfl, B⟩; replace BB := bon BB B; clear B))
    go_ret2
    exact ⟨rfl, BB⟩
  · obtain ⟨P, hP⟩ : ∃ P, p10 k = P := ⟨_, rfl⟩
    rw [hP] at hq
    have hrd := fun W => rrounddiv_b (f * 65536) P W
    rw [hq] at hrd
    have HPK := Lib.hid hP
    have HRD := Lib.hid hrd
    clear hq hP hrd
    rcases hw with ⟨b, c0, rfl, rfl⟩ | ⟨b, c0, rfl, rfl⟩ | ⟨b, c0, c1, rfl, rfl⟩ | ⟨b, c1, rfl, rfl⟩
    · have e0 : (n * 65536 + q == 0) = true := by simpa using c0
      go_enter Tryd.func19, Tryd.ntmps19
      go_wp2_with (first
      | (go_at_call 44; refine (HPT.out _).mono ?_; rintro _ _ ⟨rfl, B⟩; replace BB := bon BB B; clear B)
      | (go_at_call 42; refine (HNA.out _).mono ?_; rintro _ _ ⟨rfl, B⟩; replace BB := bon BB B; clear B)
      | (go_at_call 45; refine (HNU.out _).mono ?_; rintro _ _ ⟨rfl, B⟩; replace BB := bon BB B; clear B)
      | (go_at_call 47; refine (rpower_e _ k _ (by omega) (by omega)).mono ?_; rintro _ _ ⟨rfl, B⟩; rw [HPK.out]; replace BB := bon BB B; clear B)
      | (go_at_call 46; refine (HRD.out _).mono ?_; rintro _ _ ⟨rfl, B⟩; replace BB := bon BB B; clear B))
      go_ret2
      exact ⟨rfl, BB⟩
    · have e0 : (n * 65536 + q == 0) = false := by have := b rfl; simp; omega
      go_enter Tryd.func19, Tryd.ntmps19
      go_wp2_with (first
      | (go_at_call 44; refine (HPT.out _).mono ?_; rintro _ _ ⟨rfl, B⟩; replace BB := bon BB B; clear B)
      | (go_at_call 42; refine (HNA.out _).mono ?_; rintro _ _ ⟨rfl, B⟩; replace BB := bon BB B; clear B)
      | (go_at_call 45; refine (HNU.out _).mono ?_; rintro _ _ ⟨rfl, B⟩; replace BB := bon BB B; clear B)
      | (go_at_call 47; refine (rpower_e _ k _ (by omega) (by omega)).mono ?_; rintro _ _ ⟨rfl, B⟩; rw [HPK.out]; replace BB := bon BB B; clear B)
      | (go_at_call 46; refine (HRD.out _).mono ?_; rintro _ _ ⟨rfl, B⟩; replace BB := bon BB B; clear B))
      go_ret2
      exact ⟨rfl, BB⟩
    · have e0 : (n * 65536 + q == 0) = false := by simp; omega
      go_enter Tryd.func19, Tryd.ntmps19
      go_wp2_with (first
      | (go_at_call 44; refine (HPT.out _).mono ?_; rintro _ _ ⟨rfl, B⟩; replace BB := bon BB B; clear B)
      | (go_at_call 42; refine (HNA.out _).mono ?_; rintro _ _ ⟨rfl, B⟩; replace BB := bon BB B; clear B)
      | (go_at_call 45; refine (HNU.out _).mono ?_; rintro _ _ ⟨rfl, B⟩; replace BB := bon BB B; clear B)
      | (go_at_call 47; refine (rpower_e _ k _ (by omega) (by omega)).mono ?_; rintro _ _ ⟨rfl, B⟩; rw [HPK.out]; replace BB := bon BB B; clear B)
      | (go_at_call 46; refine (HRD.out _).mono ?_; rintro _ _ ⟨rfl, B⟩; replace BB := bon BB B; clear B))
      go_ret2
      exact ⟨rfl, BB⟩
    · cases b

set_option maxRecDepth 100000 in
set_option maxHeartbeats 2000000 in
theorem rparseFixed_pos (s : ByteArray) (v er : Int) (w : World) (hs : s.size ≤ 9223372036854775807) (hpos : 0 < s.size) (hx : (((s[0]'hpos).toNat : Int) == 45) = false) (h : pfx false (strL s) = (v, er)) :
    Calls Tryd.prog 19 #[.string s] w fun e w' => e = .returned (.tuple #[.int .i64 v, .int .i64 er]) ∧ Below w.heap.size w w' := by
  have hpi : (0 : Int) < (s.size : Int) := by omega
  have BB : Below w.heap.size w w := Below.refl _ _
  have hsz : s.size = s.size := by rfl
  obtain ⟨a, ha⟩ : ∃ a, pnt (strL s) = a := ⟨_, rfl⟩
  have hpt := fun W => rpoint_b s W (by omega)
  rw [ha] at hpt
  have hal := pnt_le (strL s)
  rw [ha, strL_len, hsz] at hal
  have e1 : strL (s.extract 0 a) = (strL s).take a := by rw [strL_extract]; simp
  have e2 : strL (s.extract (a + 1) s.size) = (strL s).drop (a + 1) := by rw [show s.size = s.size from hsz.symm, strL_extract, List.take_of_length_le (by rw [List.length_drop, strL_len]; exact Nat.le_refl _)]
  obtain ⟨n, ok, hn⟩ : ∃ n ok, natv ((strL s).take a) = (n, ok) := ⟨_, _, rfl⟩
  obtain ⟨f, is, hf⟩ : ∃ f is, numb ((strL s).drop (a + 1)) = (f, is) := ⟨_, _, rfl⟩
  have hna := fun W => rnatural_b (s.extract 0 a) n ok W (by rw [ByteArray.size_extract]; omega) (by rw [e1]; exact hn)
  have hnu := fun W => rnumber_b (s.extract (a + 1) s.size) f is W (by rw [ByteArray.size_extract]; omega) (by rw [e2]; exact hf)
  have hw := pfx_ways h ha hn hf
  rw [strL_len, hsz] at hw
  have HPT := Lib.hid hpt
  have HNA := Lib.hid hna
  have HNU := Lib.hid hnu
  clear h ha hn hf hpt hna hnu e1 e2
  rcases hw with ⟨c, rfl, rfl⟩ | ⟨c, rfl, rfl, rfl⟩ | ⟨c, rfl, rfl, rfl, rfl⟩ | ⟨c, rfl, rfl, ck, rfl, rfl⟩ | ⟨c, rfl, rfl, ck, cn, rfl, rfl⟩ | ⟨k, q, hk, k1, k5, rfl, rfl, n0, n1, f0, f1, hq, q0, q1, hw⟩
  · go_enter Tryd.func19, Tryd.ntmps19
    go_wp2_with (first
      | (go_at_call 44; refine (HPT.out _).mono ?_; rintro _ _ ⟨rfl, B⟩; replace BB := bon BB B; clear B)
      | (go_at_call 42; refine (HNA.out _).mono ?_; rintro _ _ ⟨rfl, B⟩; replace BB := bon BB B; clear B)
      | (go_at_call 45; refine (HNU.out _).mono ?_; rintro _ _ ⟨rfl, B⟩; replace BB := bon BB B; clear B)
      | (go_at_call 47; refine (rpower_e _ k _ (by omega) (by omega)).mono ?_; rintro _ _ ⟨rfl, B⟩; rw [HPK.out]; replace BB := bon BB B; clear B)
      | (go_at_call 46; refine (HRD.out _).mono ?_; rintro _ _ ⟨rfl, B⟩; replace BB := bon BB B; clear B))
    go_ret2
    exact ⟨rfl, BB⟩
  · go_enter Tryd.func19, Tryd.ntmps19
    go_wp2_with (first
      | (go_at_call 44; refine (HPT.out _).mono ?_; rintro _ _ ⟨rfl, B⟩; replace BB := bon BB B; clear B)
      | (go_at_call 42; refine (HNA.out _).mono ?_; rintro _ _ ⟨rfl, B⟩; replace BB := bon BB B; clear B)
      | (go_at_call 45; refine (HNU.out _).mono ?_; rintro _ _ ⟨rfl, B⟩; replace BB := bon BB B; clear B)
      | (go_at_call 47; refine (rpower_e _ k _ (by omega) (by omega)).mono ?_; rintro _ _ ⟨rfl, B⟩; rw [HPK.out]; replace BB := bon BB B; clear B)
      | (go_at_call 46; refine (HRD.out _).mono ?_; rintro _ _ ⟨rfl, B⟩; replace BB := bon BB B; clear B))
    go_ret2
    exact ⟨rfl, BB⟩
  · go_enter Tryd.func19, Tryd.ntmps19
    go_wp2_with (first
      | (go_at_call 44; refine (HPT.out _).mono ?_; rintro _ _ ⟨rfl, B⟩; replace BB := bon BB B; clear B)
      | (go_at_call 42; refine (HNA.out _).mono ?_; rintro _ _ ⟨rfl, B⟩; replace BB := bon BB B; clear B)
      | (go_at_call 45; refine (HNU.out _).mono ?_; rintro _ _ ⟨rfl, B⟩; replace BB := bon BB B; clear B)
      | (go_at_call 47; refine (rpower_e _ k _ (by omega) (by omega)).mono ?_; rintro _ _ ⟨rfl, B⟩; rw [HPK.out]; replace BB := bon BB B; clear B)
      | (go_at_call 46; refine (HRD.out _).mono ?_; rintro _ _ ⟨rfl, B⟩; replace BB := bon BB B; clear B))
    go_ret2
    exact ⟨rfl, BB⟩
  · go_enter Tryd.func19, Tryd.ntmps19
    go_wp2_with (first
      | (go_at_call 44; refine (HPT.out _).mono ?_; rintro _ _ ⟨rfl, B⟩; replace BB := bon BB B; clear B)
      | (go_at_call 42; refine (HNA.out _).mono ?_; rintro _ _ ⟨rfl, B⟩; replace BB := bon BB B; clear B)
      | (go_at_call 45; refine (HNU.out _).mono ?_; rintro _ _ ⟨rfl, B⟩; replace BB := bon BB B; clear B)
      | (go_at_call 47; refine (rpower_e _ k _ (by omega) (by omega)).mono ?_; rintro _ _ ⟨rfl, B⟩; rw [HPK.out]; replace BB := bon BB B; clear B)
      | (go_at_call 46; refine (HRD.out _).mono ?_; rintro _ _ ⟨rfl, B⟩; replace BB := bon BB B; clear B))
    go_ret2
    exact ⟨rfl, BB⟩
  · go_enter Tryd.func19, Tryd.ntmps19
    go_wp2_with (first
      | (go_at_call 44; refine (HPT.out _).mono ?_; rintro _ _ ⟨rfl, B⟩; replace BB := bon BB B; clear B)
      | (go_at_call 42; refine (HNA.out _).mono ?_; rintro _ _ ⟨rfl, B⟩; replace BB := bon BB B; clear B)
      | (go_at_call 45; refine (HNU.out _).mono ?_; rintro _ _ ⟨rfl, B⟩; replace BB := bon BB B; clear B)
      | (go_at_call 47; refine (rpower_e _ k _ (by omega) (by omega)).mono ?_; rintro _ _ ⟨rfl, B⟩; rw [HPK.out]; replace BB := bon BB B; clear B)
      | (go_at_call 46; refine (HRD.out _).mono ?_; rintro _ _ ⟨rfl, B⟩; replace BB := bon BB B; clear B))
    go_ret2
    exact ⟨rfl, BB⟩
  · obtain ⟨P, hP⟩ : ∃ P, p10 k = P := ⟨_, rfl⟩
    rw [hP] at hq
    have hrd := fun W => rrounddiv_b (f * 65536) P W
    rw [hq] at hrd
    have HPK := Lib.hid hP
    have HRD := Lib.hid hrd
    clear hq hP hrd
    rcases hw with ⟨b, c0, rfl, rfl⟩ | ⟨b, c0, rfl, rfl⟩ | ⟨b, c0, c1, rfl, rfl⟩ | ⟨b, c1, rfl, rfl⟩
    · cases b
    · go_enter Tryd.func19, Tryd.ntmps19
      go_wp2_with (first
      | (go_at_call 44; refine (HPT.out _).mono ?_; rintro _ _ ⟨rfl, B⟩; replace BB := bon BB B; clear B)
      | (go_at_call 42; refine (HNA.out _).mono ?_; rintro _ _ ⟨rfl, B⟩; replace BB := bon BB B; clear B)
      | (go_at_call 45; refine (HNU.out _).mono ?_; rintro _ _ ⟨rfl, B⟩; replace BB := bon BB B; clear B)
      | (go_at_call 47; refine (rpower_e _ k _ (by omega) (by omega)).mono ?_; rintro _ _ ⟨rfl, B⟩; rw [HPK.out]; replace BB := bon BB B; clear B)
      | (go_at_call 46; refine (HRD.out _).mono ?_; rintro _ _ ⟨rfl, B⟩; replace BB := bon BB B; clear B))
      go_ret2
      exact ⟨rfl, BB⟩
    · cases b
    · go_enter Tryd.func19, Tryd.ntmps19
      go_wp2_with (first
      | (go_at_call 44; refine (HPT.out _).mono ?_; rintro _ _ ⟨rfl, B⟩; replace BB := bon BB B; clear B)
      | (go_at_call 42; refine (HNA.out _).mono ?_; rintro _ _ ⟨rfl, B⟩; replace BB := bon BB B; clear B)
      | (go_at_call 45; refine (HNU.out _).mono ?_; rintro _ _ ⟨rfl, B⟩; replace BB := bon BB B; clear B)
      | (go_at_call 47; refine (rpower_e _ k _ (by omega) (by omega)).mono ?_; rintro _ _ ⟨rfl, B⟩; rw [HPK.out]; replace BB := bon BB B; clear B)
      | (go_at_call 46; refine (HRD.out _).mono ?_; rintro _ _ ⟨rfl, B⟩; replace BB := bon BB B; clear B))
      go_ret2
      exact ⟨rfl, BB⟩

set_option maxRecDepth 100000 in
theorem rparseFixed_b (s : ByteArray) (v er : Int) (w : World) (hs : s.size ≤ 9223372036854775807) (h : pfix (strL s) = (v, er)) :
    Calls Tryd.prog 19 #[.string s] w fun e w' => e = .returned (.tuple #[.int .i64 v, .int .i64 er]) ∧ Below w.heap.size w w' := by
  unfold pfix at h
  rcases Nat.eq_zero_or_pos s.size with h0 | hpos
  · have hl := head_none s h0
    rw [hl] at h
    simp only [List.head?_nil, reduceCtorEq, if_false] at h
    have e : ((0 : Int), (3 : Int)) = (v, er) := by rw [← h]; rfl
    simp only [Prod.mk.injEq] at e
    obtain ⟨rfl, rfl⟩ := e
    have hpt := fun W => rpoint_b s W hs
    rw [hl, show pnt ([] : List Int) = 0 from rfl] at hpt
    have HPT := Lib.hid hpt
    have BB : Below w.heap.size w w := Below.refl _ _
    clear h hl hpt
    go_enter Tryd.func19, Tryd.ntmps19
    go_wp2_with (go_at_call 44; refine (HPT.out _).mono ?_; rintro _ _ ⟨rfl, B⟩; replace BB := bon BB B; clear B)
    go_ret2
    exact ⟨rfl, BB⟩
  · by_cases hx : ((s[0]'hpos).toNat : Int) = 45
    · rw [if_pos (by rw [head_at s hpos, hx]), ← tail_str] at h
      exact rparseFixed_neg s v er w hs hpos (by simp [hx]) h
    · rw [if_neg (by rw [head_at s hpos]; simpa using hx)] at h
      exact rparseFixed_pos s v er w hs hpos (by simpa using hx) h

end Go.Proofs.YthancgnmbmempaaDoor
