/- Numbers as groups of seven bits: how they are written and read. No program is named here. -/
import Derived.WalkKit
namespace Go.Proofs.YtnhnbblplnhmlaaGreatDoor
set_option linter.unusedSimpArgs false
open Go.RowKit

/-- The number that is written for an int, and the int of a number. -/
def zig (n : Int) : Int := if n < 0 then -2 * n - 1 else 2 * n
def zag (u : Int) : Int := if u % 2 = 1 then -(u / 2) - 1 else u / 2

theorem zag_zig (n : Int) : zag (zig n) = n := by unfold zag zig; split <;> split <;> omega
theorem zig_zag (u : Int) (h : 0 ≤ u) : zig (zag u) = u := by unfold zag zig; split <;> split <;> omega
theorem zig_rng (n : Int) (h0 : -9223372036854775808 ≤ n) (h1 : n ≤ 9223372036854775807) : 0 ≤ zig n ∧ zig n < 18446744073709551616 := by unfold zig; split <;> omega
theorem zag_rng (u : Int) (h0 : 0 ≤ u) (h1 : u < 18446744073709551616) : -9223372036854775808 ≤ zag u ∧ zag u ≤ 9223372036854775807 := by unfold zag; split <;> omega

/-- A number's groups, the least significant one first. -/
def vari (u : Nat) : List Int := if u < 128 then [(u : Int)] else ((u % 128 + 128 : Nat) : Int) :: vari (u / 128)
termination_by u
decreasing_by omega

def encI (n : Int) : List Int := vari (zig n).toNat

theorem vari_lt {u : Nat} (h : u < 128) : vari u = [(u : Int)] := by rw [vari, if_pos h]
theorem vari_ge {u : Nat} (h : 128 ≤ u) : vari u = ((u % 128 + 128 : Nat) : Int) :: vari (u / 128) := by rw [vari, if_neg (by omega)]
theorem vari_pos (u : Nat) : 1 ≤ (vari u).length := by
  by_cases h : u < 128
  · rw [vari_lt h]; simp
  · rw [vari_ge (by omega)]; simp

theorem vari_rng (u : Nat) : ∀ x ∈ vari u, (0 : Int) ≤ x ∧ x ≤ 255 := by
  induction u using Nat.strongRecOn with
  | _ u ih =>
    intro x hx
    by_cases h : u < 128
    · rw [vari_lt h] at hx
      simp at hx
      omega
    · rw [vari_ge (by omega)] at hx
      rcases List.mem_cons.1 hx with hx | hx
      · omega
      · exact ih (u / 128) (by omega) x hx

/-- A number below 128^k has at most k groups. -/
theorem vari_len (k : Nat) : ∀ u : Nat, u < 128 ^ (k + 1) → (vari u).length ≤ k + 1 := by
  induction k with
  | zero => intro u hu; rw [vari_lt (by simpa using hu)]; simp
  | succ k ih =>
    intro u hu
    by_cases h : u < 128
    · rw [vari_lt h]; simp
    · rw [vari_ge (by omega)]
      have := ih (u / 128) (by
        rw [Nat.pow_succ] at hu
        exact Nat.div_lt_of_lt_mul (by rw [Nat.mul_comm]; exact hu))
      simp only [List.length_cons]
      omega

theorem encI_len (n : Int) (h0 : -9223372036854775808 ≤ n) (h1 : n ≤ 9223372036854775807) : (encI n).length ≤ 10 := by
  have h := zig_rng n h0 h1
  exact vari_len 9 _ (by
    have e : (128 : Nat) ^ (9 + 1) = 1180591620717411303424 := by decide
    rw [e]; omega)

theorem encI_pos (n : Int) : 1 ≤ (encI n).length := vari_pos _

/-- Reading groups: i were read, u is their number: the number, the groups in all, the error. -/
def vr : List Int → Nat → Int → Int × Int × Int
  | [], _, _ => (0, 0, 4)
  | x :: r, i, u =>
    if i = 9 ∧ 1 < x then (0, 0, 3)
    else if x < 128 then (if x = 0 ∧ 0 < i then (0, 0, 3) else (u + x * 128 ^ i, (i : Int) + 1, 0))
    else vr r (i + 1) (u + x % 128 * 128 ^ i)

theorem vr_nil (i : Nat) (u : Int) : vr [] i u = (0, 0, 4) := rfl
theorem vr_nine {x : Int} {r : List Int} {u : Int} (h : 1 < x) : vr (x :: r) 9 u = (0, 0, 3) := by rw [vr, if_pos ⟨rfl, h⟩]
theorem vr_zero {r : List Int} {i : Nat} {u : Int} (h : 0 < i) : vr (0 :: r) i u = (0, 0, 3) := by
  rw [vr, if_neg (by omega), if_pos (by omega), if_pos ⟨rfl, h⟩]
theorem vr_end {x : Int} {r : List Int} {i : Nat} {u : Int} (h : ¬ (i = 9 ∧ 1 < x)) (h1 : x < 128) (h2 : ¬ (x = 0 ∧ 0 < i)) : vr (x :: r) i u = (u + x * 128 ^ i, (i : Int) + 1, 0) := by
  rw [vr, if_neg h, if_pos h1, if_neg h2]
theorem vr_on {x : Int} {r : List Int} {i : Nat} {u : Int} (h : ¬ (i = 9 ∧ 1 < x)) (h1 : 128 ≤ x) : vr (x :: r) i u = vr r (i + 1) (u + x % 128 * 128 ^ i) := by
  rw [vr, if_neg h, if_neg (by omega)]

/-- Reading an int at an index: the int, the index behind it, the error. -/
def ri (l : List Int) (at_ : Int) : Int × Int × Int :=
  if at_ < 0 ∨ (l.length : Int) < at_ then (0, 0, 2)
  else if (vr (l.drop at_.toNat) 0 0).2.2 = 0 then (zag (vr (l.drop at_.toNat) 0 0).1, at_ + (vr (l.drop at_.toNat) 0 0).2.1, 0)
  else (0, 0, (vr (l.drop at_.toNat) 0 0).2.2)

theorem ri_arg {l : List Int} {at_ : Int} (h : at_ < 0 ∨ (l.length : Int) < at_) : ri l at_ = (0, 0, 2) := by rw [ri, if_pos h]
theorem ri_yes {l : List Int} {at_ u k : Int} (h : ¬ (at_ < 0 ∨ (l.length : Int) < at_)) (hv : vr (l.drop at_.toNat) 0 0 = (u, k, 0)) : ri l at_ = (zag u, at_ + k, 0) := by
  rw [ri, if_neg h, hv, if_pos rfl]
theorem ri_no {l : List Int} {at_ u k e : Int} (h : ¬ (at_ < 0 ∨ (l.length : Int) < at_)) (hv : vr (l.drop at_.toNat) 0 0 = (u, k, e)) (he : e ≠ 0) : ri l at_ = (0, 0, e) := by
  rw [ri, if_neg h, hv, if_neg he]

theorem pow128_pos (i : Nat) : (1 : Int) ≤ 128 ^ i := by
  have := Nat.one_le_pow i 128 (by omega)
  have e : (128 : Int) ^ i = ((128 ^ i : Nat) : Int) := by simp
  omega
theorem pow128_succ (i : Nat) : (128 : Int) ^ (i + 1) = 128 * 128 ^ i := by rw [Int.pow_succ, Int.mul_comm]
theorem pow128_le {i j : Nat} (h : i ≤ j) : (128 : Int) ^ i ≤ 128 ^ j := by
  have := Nat.pow_le_pow_right (n := 128) (by omega) h
  have e : ∀ i, (128 : Int) ^ i = ((128 ^ i : Nat) : Int) := by intro i; simp
  rw [e, e]; omega

/-- What vr yields is in range: the error one of three, the groups at least one more, the number below 2^64. -/
theorem vr_rng (l : List Int) : ∀ (i : Nat) (u : Int), (∀ x ∈ l, (0 : Int) ≤ x ∧ x ≤ 255) → i ≤ 9 → 0 ≤ u → u < 128 ^ i →
    ((vr l i u).2.2 = 4 ∧ (vr l i u).1 = 0 ∧ (vr l i u).2.1 = 0) ∨ ((vr l i u).2.2 = 3 ∧ (vr l i u).1 = 0 ∧ (vr l i u).2.1 = 0) ∨
    ((vr l i u).2.2 = 0 ∧ 0 ≤ (vr l i u).1 ∧ (vr l i u).1 < 18446744073709551616 ∧ (i : Int) < (vr l i u).2.1 ∧ (vr l i u).2.1 ≤ i + l.length) := by
  induction l with
  | nil => intro i u _ _ _ _; exact .inl ⟨rfl, rfl, rfl⟩
  | cons x r ih =>
    intro i u hr hi h0 h1
    have hx := hr x (by simp)
    have hp := pow128_pos i
    by_cases h9 : i = 9 ∧ 1 < x
    · obtain ⟨rfl, h⟩ := h9
      rw [vr_nine h]
      exact .inr (.inl ⟨rfl, rfl, rfl⟩)
    · by_cases hlt : x < 128
      · by_cases hz : x = 0 ∧ 0 < i
        · obtain ⟨rfl, h⟩ := hz
          rw [vr_zero h]
          exact .inr (.inl ⟨rfl, rfl, rfl⟩)
        · rw [vr_end h9 hlt hz]
          refine .inr (.inr ⟨rfl, ?_, ?_, by simp; omega, by simp; omega⟩)
          · have := Int.mul_nonneg hx.1 (show (0 : Int) ≤ 128 ^ i by omega)
            simp only; omega
          · by_cases e9 : i = 9
            · subst e9
              have e : (128 : Int) ^ 9 = 9223372036854775808 := by decide
              rw [e] at h1 ⊢
              simp only; omega
            · have h8 := pow128_le (show i ≤ 8 by omega)
              have e : (128 : Int) ^ 8 = 72057594037927936 := by decide
              have := Int.mul_le_mul_of_nonneg_right (show x ≤ 127 by omega) (show (0 : Int) ≤ 128 ^ i by omega)
              simp only; omega
      · rw [vr_on h9 (by omega)]
        have hi9 : i ≠ 9 := by intro e; exact h9 ⟨e, by omega⟩
        have hm := Int.mul_le_mul_of_nonneg_right (show x % 128 ≤ 127 by omega) (show (0 : Int) ≤ 128 ^ i by omega)
        have hm0 := Int.mul_nonneg (show 0 ≤ x % 128 by omega) (show (0 : Int) ≤ 128 ^ i by omega)
        have hs := pow128_succ i
        rcases ih (i + 1) (u + x % 128 * 128 ^ i) (fun y hy => hr y (by simp [hy])) (by omega) (by omega) (by omega) with h | h | ⟨a, b, c, d, f⟩
        · exact .inl h
        · exact .inr (.inl h)
        · exact .inr (.inr ⟨a, b, c, by omega, by simp only [List.length_cons]; omega⟩)

/-- What is written is read. -/
theorem vr_vari (tail : List Int) : ∀ (u i : Nat) (acc : Int), 0 ≤ acc → acc + u * 128 ^ i < 18446744073709551616 → i ≤ 9 → (0 < i → 0 < u) →
    vr (vari u ++ tail) i acc = (acc + u * 128 ^ i, (i : Int) + (vari u).length, 0) := by
  intro u
  induction u using Nat.strongRecOn with
  | _ u ih =>
    intro i acc h0 h1 hi hpos
    have hp := pow128_pos i
    have h9 : ∀ x : Int, i = 9 → x ≤ u → ¬ (1 < x) := by
      rintro x rfl hx h
      have e : (128 : Int) ^ 9 = 9223372036854775808 := by decide
      rw [e] at h1
      omega
    by_cases h : u < 128
    · rw [vari_lt h]
      simp only [List.cons_append, List.nil_append, List.length_singleton]
      rw [vr_end (fun hh => h9 (u : Int) hh.1 (Int.le_refl _) hh.2) (by omega) (by omega)]
      rfl
    · rw [vari_ge (by omega)]
      have hne : i ≠ 9 := fun e => h9 (u : Int) e (Int.le_refl _) (by omega)
      simp only [List.cons_append]
      rw [vr_on (fun hh => hne hh.1) (by omega)]
      have hs := pow128_succ i
      have e2 : ((u % 128 + 128 : Nat) : Int) % 128 = ((u % 128 : Nat) : Int) := by omega
      have e3 : acc + ((u % 128 : Nat) : Int) * 128 ^ i + ((u / 128 : Nat) : Int) * 128 ^ (i + 1) = acc + u * 128 ^ i := by
        rw [hs, ← Int.mul_assoc, Int.add_assoc, ← Int.add_mul]
        congr 2
        omega
      have hm0 := Int.mul_nonneg (show (0 : Int) ≤ ((u % 128 : Nat) : Int) by omega) (show (0 : Int) ≤ 128 ^ i by omega)
      rw [e2, ih (u / 128) (by omega) (i + 1) _ (by omega) (by rw [e3]; exact h1) (by omega) (by omega), e3]
      simp only [List.length_cons, Prod.mk.injEq, and_true, true_and]
      omega

/-- What is read was written so. -/
theorem vr_unique (l : List Int) : ∀ (i : Nat) (acc v k : Int), (∀ x ∈ l, (0 : Int) ≤ x ∧ x ≤ 255) → vr l i acc = (v, k, 0) →
    ∃ u : Nat, v = acc + u * 128 ^ i ∧ (0 < i → 0 < u) ∧ k = i + (vari u).length ∧ l.take (vari u).length = vari u := by
  induction l with
  | nil => intro i acc v k _ h; rw [vr_nil] at h; simp at h
  | cons x r ih =>
    intro i acc v k hr h
    have hx := hr x (by simp)
    by_cases h9 : i = 9 ∧ 1 < x
    · obtain ⟨rfl, h'⟩ := h9
      rw [vr_nine h'] at h
      simp at h
    · by_cases hlt : x < 128
      · by_cases hz : x = 0 ∧ 0 < i
        · obtain ⟨rfl, h'⟩ := hz
          rw [vr_zero h'] at h
          simp at h
        · rw [vr_end h9 hlt hz] at h
          simp only [Prod.mk.injEq, and_true] at h
          obtain ⟨rfl, rfl⟩ := h
          have e : ((x.toNat : Nat) : Int) = x := by omega
          refine ⟨x.toNat, by rw [e], by omega, ?_, ?_⟩
          · rw [vari_lt (by omega)]; simp
          · rw [vari_lt (by omega), e]; simp
      · rw [vr_on h9 (by omega)] at h
        obtain ⟨u, h1, h2, h3, h4⟩ := ih (i + 1) _ v k (fun y hy => hr y (by simp [hy])) h
        have hu := h2 (by omega)
        have hs := pow128_succ i
        have hd : (x.toNat % 128 + 128 * u) / 128 = u := by omega
        have hm : (x.toNat % 128 + 128 * u) % 128 + 128 = x.toNat := by omega
        have hv : vari (x.toNat % 128 + 128 * u) = x :: vari u := by
          rw [vari_ge (by omega), hd, hm]
          congr 1
          omega
        refine ⟨x.toNat % 128 + 128 * u, ?_, by omega, ?_, ?_⟩
        · rw [h1, hs, Int.add_assoc, ← Int.mul_assoc, ← Int.add_mul]
          congr 2
          omega
        · rw [hv, h3]; simp; omega
        · rw [hv]; simp [h4]

/-- A number that was read. -/
theorem ri_back (pre tail : List Int) (n : Int) (h0 : -9223372036854775808 ≤ n) (h1 : n ≤ 9223372036854775807) :
    ri (pre ++ encI n ++ tail) pre.length = (n, (pre.length : Int) + (encI n).length, 0) := by
  have hz := zig_rng n h0 h1
  have hd : (pre ++ encI n ++ tail).drop ((pre.length : Int)).toNat = encI n ++ tail := by simp
  have hv := vr_vari tail (zig n).toNat 0 0 (by omega) (by simp; omega) (by omega) (by omega)
  rw [show ((((zig n).toNat : Nat) : Int)) = zig n by omega] at hv
  have hl : (pre ++ encI n ++ tail).length = pre.length + (encI n).length + tail.length := by simp; omega
  have := ri_yes (l := pre ++ encI n ++ tail) (at_ := pre.length) (u := zig n) (k := (encI n).length) (by rw [hl]; omega) (by rw [hd]; unfold encI; rw [hv]; simp)
  rw [this, zag_zig]

theorem ri_rng (l : List Int) (at_ v nx e : Int) (hl : ∀ x ∈ l, (0 : Int) ≤ x ∧ x ≤ 255) (h : ri l at_ = (v, nx, e)) :
    (e = 0 ∧ 0 ≤ at_ ∧ at_ < nx ∧ nx ≤ l.length ∧ -9223372036854775808 ≤ v ∧ v ≤ 9223372036854775807) ∨ ((e = 2 ∨ e = 3 ∨ e = 4) ∧ v = 0 ∧ nx = 0) := by
  by_cases ha : at_ < 0 ∨ (l.length : Int) < at_
  · rw [ri_arg ha] at h
    simp only [Prod.mk.injEq] at h
    omega
  · have hv := vr_rng (l.drop at_.toNat) 0 0 (fun x hx => hl x (List.mem_of_mem_drop hx)) (by omega) (by omega) (by simp)
    obtain ⟨u, k, f, hu⟩ : ∃ u k f, vr (l.drop at_.toNat) 0 0 = (u, k, f) := ⟨_, _, _, rfl⟩
    rw [hu] at hv
    simp only [List.length_drop] at hv
    rcases hv with ⟨rfl, rfl, rfl⟩ | ⟨rfl, rfl, rfl⟩ | ⟨rfl, a, b, c, d⟩
    · rw [ri_no ha hu (by omega)] at h
      simp only [Prod.mk.injEq] at h
      omega
    · rw [ri_no ha hu (by omega)] at h
      simp only [Prod.mk.injEq] at h
      omega
    · rw [ri_yes ha hu] at h
      simp only [Prod.mk.injEq] at h
      have := zag_rng u a b
      omega

/-- Bytes that are read as an int are its encoding. -/
theorem ri_unique (l : List Int) (at_ v nx : Int) (hl : ∀ x ∈ l, (0 : Int) ≤ x ∧ x ≤ 255) (h : ri l at_ = (v, nx, 0)) :
    encI v = (l.drop at_.toNat).take (nx.toNat - at_.toNat) ∧ 0 ≤ at_ ∧ at_ < nx ∧ nx ≤ l.length := by
  rcases ri_rng l at_ v nx 0 hl h with ⟨_, g0, g1, g2, _⟩ | ⟨g, _⟩
  · refine ⟨?_, g0, g1, g2⟩
    have ha : ¬ (at_ < 0 ∨ (l.length : Int) < at_) := by omega
    obtain ⟨u, k, f, hu⟩ : ∃ u k f, vr (l.drop at_.toNat) 0 0 = (u, k, f) := ⟨_, _, _, rfl⟩
    by_cases hf : f = 0
    · subst hf
      rw [ri_yes ha hu] at h
      simp only [Prod.mk.injEq, and_true] at h
      obtain ⟨rfl, rfl⟩ := h
      obtain ⟨m, h1, _, h3, h4⟩ := vr_unique _ 0 0 u k (fun x hx => hl x (List.mem_of_mem_drop hx)) hu
      have e1 : u = m := by simpa using h1
      subst e1
      unfold encI
      rw [zig_zag _ (by omega), Int.toNat_natCast, show (at_ + k).toNat - at_.toNat = (vari m).length by omega, h4]
    · rw [ri_no ha hu hf] at h
      simp only [Prod.mk.injEq] at h
      omega
  · omega

end Go.Proofs.YtnhnbblplnhmlaaGreatDoor
