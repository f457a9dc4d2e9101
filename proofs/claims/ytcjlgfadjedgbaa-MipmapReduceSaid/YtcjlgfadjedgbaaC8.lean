/- What Same, SameInts and Clone return. -/
import Derived.Test.YtcjlgfadjedgbaaBytes
import Derived.Test.YtcjlgfadjedgbaaBelow
import Derived.Test.YtcjlgfadjedgbaaChecked
import Derived.Deep.QuietTactic
import Derived.BigQuiet
import Derived.Outline
import Derived.WalkSpells
import Derived.WalkKit
import Derived.IntWalk
namespace Go.Proofs.Ytcjlgfadjedgbaa
open Go.RowKit Go.Sort

theorem eB : Elem Try.prog 23 5 .u8 1 := elem_of Try.underlying23 (by kernel_rfl)
theorem eI : Elem Try.prog 80 3 .i64 8 := elem_of Try.underlying80 (by kernel_rfl)

theorem hid_some {l : List Int} {j : Nat} {x y : Int} (hx : Hid (l[j]? = some x)) (hy : Hid (l[j]? = some y)) : y = x := by
  have h := hx.out.symm.trans hy.out
  injection h with h
  exact h.symm

/-- A call that returns a slice of the caller's own. -/
def GivesOwn (W : World) (base : Nat) (e : TypeId) (k : IntKind) (l : List Int) (x : Ending) (w' : World) : Prop :=
  ∃ A n c, x = .returned (.slice A n c) ∧ Own w' base e k A n c l ∧ Below base W w'

/-- A call that returns a slice. -/
def GivesRd (W : World) (k : IntKind) (l : List Int) (x : Ending) (w' : World) : Prop :=
  ∃ A n c, x = .returned (.slice A n c) ∧ n ≤ c ∧ Rd w' w'.heap.size k A n l ∧ Below W.heap.size W w'

theorem GivesOwn.rd {W w' : World} {e : TypeId} {k : IntKind} {l : List Int} {x : Ending} (h : GivesOwn W W.heap.size e k l x w') : GivesRd W k l x w' := by
  obtain ⟨A, n, c, rfl, own, B⟩ := h
  exact ⟨A, n, c, rfl, own.room, own.rd, B⟩

theorem clone_b (A : Option Addr) (n c : Nat) (l : List Int) (w : World) (R : Rd w w.heap.size .u8 A n l) (hn : n ≤ 140737488355328) :
    Calls Try.prog 59 #[.slice A n c] w (GivesOwn w w.heap.size 5 .u8 l) := by
  have q : ∀ (w : World) (a : Option Addr) (n c n' c' : Nat), (binOp .eql 23 (.slice a n c) (.slice none n' c')).run Try.prog w = .ok (.bool a.isNone) w := fun w a n c n' c' => Lib.run_eql_slice_nil w _ _ a n c n' c' Try.underlying23
  rcases A with _ | a
  · have hl : n = 0 := by
      rcases Nat.eq_zero_or_pos n with h0 | h0
      · exact h0
      · obtain ⟨_, _, h, _⟩ := R.2.2 h0
        cases h
    subst hl
    obtain rfl : l = [] := List.eq_nil_of_length_eq_zero R.len
    go_enter Try.func59, Try.ntmps59
    go_wp2
    go_ret
    exact ⟨none, 0, 0, rfl, Own.nil _ _ _, Below.refl _ _⟩
  · have own0 := Own.made w 5 .u8
    have B0 : Below w.heap.size w (w.alloc (.cells #[] 5)) := (Below.refl _ _).alloc (Nat.le_refl _) _
    go_enter Try.func59, Try.ntmps59
    go_wp2_with (at_builtin; refine wpList_app _ rfl _ _ _ rfl eB own0 rfl (R.below B0) rfl (by simp only [maxLen]; omega) (by omega) ?_; intro A1 n1 c1 W1 own1 B1)
    go_ret
    exact ⟨A1, n1, c1, rfl, by simpa using own1, B0.trans B1⟩

end Go.Proofs.Ytcjlgfadjedgbaa

/- Numbers as groups of seven bits: how they are written and read. No program is named here. -/
namespace Go.Proofs.Ytcjlgfadjedgbaa
open Go.RowKit

/-- The number that is written for an int, and the int of a number. -/
def zig (n : Int) : Int := if n < 0 then -2 * n - 1 else 2 * n
def zag (u : Int) : Int := if u % 2 = 1 then -(u / 2) - 1 else u / 2

theorem zag_zig (n : Int) : zag (zig n) = n := by unfold zag zig; split <;> split <;> omega
theorem zig_zag (u : Int) (h : 0 ≤ u) : zig (zag u) = u := by unfold zag zig; split <;> split <;> omega
theorem zig_rng (n : Int) (h0 : -9223372036854775808 ≤ n) (h1 : n ≤ 9223372036854775807) : 0 ≤ zig n ∧ zig n < 18446744073709551616 := by unfold zig; split <;> omega
theorem zag_rng (u : Int) (h0 : 0 ≤ u) (h1 : u < 18446744073709551616) : -9223372036854775808 ≤ zag u ∧ zag u ≤ 9223372036854775807 := by unfold zag; split <;> omega

/-- A number's groups, the least significant one first. -/
def vari (u : Nat) : List Int := if u < 128 then [(u : Int)] else ((u % 128 + 128 : Nat) : Int) :: vari (u / 128)
termination_by u
decreasing_by omega

def encI (n : Int) : List Int := vari (zig n).toNat

theorem vari_lt {u : Nat} (h : u < 128) : vari u = [(u : Int)] := by rw [vari, if_pos h]
theorem vari_ge {u : Nat} (h : 128 ≤ u) : vari u = ((u % 128 + 128 : Nat) : Int) :: vari (u / 128) := by rw [vari, if_neg (by omega)]
theorem vari_pos (u : Nat) : 1 ≤ (vari u).length := by
  by_cases h : u < 128
  · rw [vari_lt h]; simp
  · rw [vari_ge (by omega)]; simp

theorem vari_rng (u : Nat) : ∀ x ∈ vari u, (0 : Int) ≤ x ∧ x ≤ 255 := by
  induction u using Nat.strongRecOn with
  | _ u ih =>
    intro x hx
    by_cases h : u < 128
    · rw [vari_lt h] at hx
      simp at hx
      omega
    · rw [vari_ge (by omega)] at hx
      rcases List.mem_cons.1 hx with hx | hx
      · omega
      · exact ih (u / 128) (by omega) x hx

/-- A number below 128^k has at most k groups. -/
theorem vari_len (k : Nat) : ∀ u : Nat, u < 128 ^ (k + 1) → (vari u).length ≤ k + 1 := by
  induction k with
  | zero => intro u hu; rw [vari_lt (by simpa using hu)]; simp
  | succ k ih =>
    intro u hu
    by_cases h : u < 128
    · rw [vari_lt h]; simp
    · rw [vari_ge (by omega)]
      have := ih (u / 128) (by
        rw [Nat.pow_succ] at hu
        exact Nat.div_lt_of_lt_mul (by rw [Nat.mul_comm]; exact hu))
      simp only [List.length_cons]
      omega

theorem encI_len (n : Int) (h0 : -9223372036854775808 ≤ n) (h1 : n ≤ 9223372036854775807) : (encI n).length ≤ 10 := by
  have h := zig_rng n h0 h1
  exact vari_len 9 _ (by
    have e : (128 : Nat) ^ (9 + 1) = 1180591620717411303424 := by decide
    rw [e]; omega)

theorem encI_pos (n : Int) : 1 ≤ (encI n).length := vari_pos _

/-- Reading groups: i were read, u is their number: the number, the groups in all, the error. -/
def vr : List Int → Nat → Int → Int × Int × Int
  | [], _, _ => (0, 0, 4)
  | x :: r, i, u =>
    if i = 9 ∧ 1 < x then (0, 0, 3)
    else if x < 128 then (if x = 0 ∧ 0 < i then (0, 0, 3) else (u + x * 128 ^ i, (i : Int) + 1, 0))
    else vr r (i + 1) (u + x % 128 * 128 ^ i)

theorem vr_nil (i : Nat) (u : Int) : vr [] i u = (0, 0, 4) := rfl
theorem vr_nine {x : Int} {r : List Int} {u : Int} (h : 1 < x) : vr (x :: r) 9 u = (0, 0, 3) := by rw [vr, if_pos ⟨rfl, h⟩]
theorem vr_zero {r : List Int} {i : Nat} {u : Int} (h : 0 < i) : vr (0 :: r) i u = (0, 0, 3) := by
  rw [vr, if_neg (by omega), if_pos (by omega), if_pos ⟨rfl, h⟩]
theorem vr_end {x : Int} {r : List Int} {i : Nat} {u : Int} (h : ¬ (i = 9 ∧ 1 < x)) (h1 : x < 128) (h2 : ¬ (x = 0 ∧ 0 < i)) : vr (x :: r) i u = (u + x * 128 ^ i, (i : Int) + 1, 0) := by
  rw [vr, if_neg h, if_pos h1, if_neg h2]
theorem vr_on {x : Int} {r : List Int} {i : Nat} {u : Int} (h : ¬ (i = 9 ∧ 1 < x)) (h1 : 128 ≤ x) : vr (x :: r) i u = vr r (i + 1) (u + x % 128 * 128 ^ i) := by
  rw [vr, if_neg h, if_neg (by omega)]

/-- Reading an int at an index: the int, the index behind it, the error. -/
def ri (l : List Int) (at_ : Int) : Int × Int × Int :=
  if at_ < 0 ∨ (l.length : Int) < at_ then (0, 0, 2)
  else if (vr (l.drop at_.toNat) 0 0).2.2 = 0 then (zag (vr (l.drop at_.toNat) 0 0).1, at_ + (vr (l.drop at_.toNat) 0 0).2.1, 0)
  else (0, 0, (vr (l.drop at_.toNat) 0 0).2.2)

theorem ri_arg {l : List Int} {at_ : Int} (h : at_ < 0 ∨ (l.length : Int) < at_) : ri l at_ = (0, 0, 2) := by rw [ri, if_pos h]
theorem ri_yes {l : List Int} {at_ u k : Int} (h : ¬ (at_ < 0 ∨ (l.length : Int) < at_)) (hv : vr (l.drop at_.toNat) 0 0 = (u, k, 0)) : ri l at_ = (zag u, at_ + k, 0) := by
  rw [ri, if_neg h, hv, if_pos rfl]
theorem ri_no {l : List Int} {at_ u k e : Int} (h : ¬ (at_ < 0 ∨ (l.length : Int) < at_)) (hv : vr (l.drop at_.toNat) 0 0 = (u, k, e)) (he : e ≠ 0) : ri l at_ = (0, 0, e) := by
  rw [ri, if_neg h, hv, if_neg he]

theorem pow128_pos (i : Nat) : (1 : Int) ≤ 128 ^ i := by
  have := Nat.one_le_pow i 128 (by omega)
  have e : (128 : Int) ^ i = ((128 ^ i : Nat) : Int) := by simp
  omega
theorem pow128_succ (i : Nat) : (128 : Int) ^ (i + 1) = 128 * 128 ^ i := by rw [Int.pow_succ, Int.mul_comm]
theorem pow128_le {i j : Nat} (h : i ≤ j) : (128 : Int) ^ i ≤ 128 ^ j := by
  have := Nat.pow_le_pow_right (n := 128) (by omega) h
  have e : ∀ i, (128 : Int) ^ i = ((128 ^ i : Nat) : Int) := by intro i; simp
  rw [e, e]; omega

/-- What vr yields is in range: the error one of three, the groups at least one more, the number below 2^64. -/
theorem vr_rng (l : List Int) : ∀ (i : Nat) (u : Int), (∀ x ∈ l, (0 : Int) ≤ x ∧ x ≤ 255) → i ≤ 9 → 0 ≤ u → u < 128 ^ i →
    ((vr l i u).2.2 = 4 ∧ (vr l i u).1 = 0 ∧ (vr l i u).2.1 = 0) ∨ ((vr l i u).2.2 = 3 ∧ (vr l i u).1 = 0 ∧ (vr l i u).2.1 = 0) ∨
    ((vr l i u).2.2 = 0 ∧ 0 ≤ (vr l i u).1 ∧ (vr l i u).1 < 18446744073709551616 ∧ (i : Int) < (vr l i u).2.1 ∧ (vr l i u).2.1 ≤ i + l.length) := by
  induction l with
  | nil => intro i u _ _ _ _; exact .inl ⟨rfl, rfl, rfl⟩
  | cons x r ih =>
    intro i u hr hi h0 h1
    have hx := hr x (by simp)
    have hp := pow128_pos i
    by_cases h9 : i = 9 ∧ 1 < x
    · obtain ⟨rfl, h⟩ := h9
      rw [vr_nine h]
      exact .inr (.inl ⟨rfl, rfl, rfl⟩)
    · by_cases hlt : x < 128
      · by_cases hz : x = 0 ∧ 0 < i
        · obtain ⟨rfl, h⟩ := hz
          rw [vr_zero h]
          exact .inr (.inl ⟨rfl, rfl, rfl⟩)
        · rw [vr_end h9 hlt hz]
          refine .inr (.inr ⟨rfl, ?_, ?_, by simp; omega, by simp; omega⟩)
          · have := Int.mul_nonneg hx.1 (show (0 : Int) ≤ 128 ^ i by omega)
            simp only; omega
          · by_cases e9 : i = 9
            · subst e9
              have e : (128 : Int) ^ 9 = 9223372036854775808 := by decide
              rw [e] at h1 ⊢
              simp only; omega
            · have h8 := pow128_le (show i ≤ 8 by omega)
              have e : (128 : Int) ^ 8 = 72057594037927936 := by decide
              have := Int.mul_le_mul_of_nonneg_right (show x ≤ 127 by omega) (show (0 : Int) ≤ 128 ^ i by omega)
              simp only; omega
      · rw [vr_on h9 (by omega)]
        have hi9 : i ≠ 9 := by intro e; exact h9 ⟨e, by omega⟩
        have hm := Int.mul_le_mul_of_nonneg_right (show x % 128 ≤ 127 by omega) (show (0 : Int) ≤ 128 ^ i by omega)
        have hm0 := Int.mul_nonneg (show 0 ≤ x % 128 by omega) (show (0 : Int) ≤ 128 ^ i by omega)
        have hs := pow128_succ i
        rcases ih (i + 1) (u + x % 128 * 128 ^ i) (fun y hy => hr y (by simp [hy])) (by omega) (by omega) (by omega) with h | h | ⟨a, b, c, d, f⟩
        · exact .inl h
        · exact .inr (.inl h)
        · exact .inr (.inr ⟨a, b, c, by omega, by simp only [List.length_cons]; omega⟩)

/-- What is written is read. -/
theorem vr_vari (tail : List Int) : ∀ (u i : Nat) (acc : Int), 0 ≤ acc → acc + u * 128 ^ i < 18446744073709551616 → i ≤ 9 → (0 < i → 0 < u) →
    vr (vari u ++ tail) i acc = (acc + u * 128 ^ i, (i : Int) + (vari u).length, 0) := by
  intro u
  induction u using Nat.strongRecOn with
  | _ u ih =>
    intro i acc h0 h1 hi hpos
    have hp := pow128_pos i
    have h9 : ∀ x : Int, i = 9 → x ≤ u → ¬ (1 < x) := by
      rintro x rfl hx h
      have e : (128 : Int) ^ 9 = 9223372036854775808 := by decide
      rw [e] at h1
      omega
    by_cases h : u < 128
    · rw [vari_lt h]
      simp only [List.cons_append, List.nil_append, List.length_singleton]
      rw [vr_end (fun hh => h9 (u : Int) hh.1 (Int.le_refl _) hh.2) (by omega) (by omega)]
      rfl
    · rw [vari_ge (by omega)]
      have hne : i ≠ 9 := fun e => h9 (u : Int) e (Int.le_refl _) (by omega)
      simp only [List.cons_append]
      rw [vr_on (fun hh => hne hh.1) (by omega)]
      have hs := pow128_succ i
      have e2 : ((u % 128 + 128 : Nat) : Int) % 128 = ((u % 128 : Nat) : Int) := by omega
      have e3 : acc + ((u % 128 : Nat) : Int) * 128 ^ i + ((u / 128 : Nat) : Int) * 128 ^ (i + 1) = acc + u * 128 ^ i := by
        rw [hs, ← Int.mul_assoc, Int.add_assoc, ← Int.add_mul]
        congr 2
        omega
      have hm0 := Int.mul_nonneg (show (0 : Int) ≤ ((u % 128 : Nat) : Int) by omega) (show (0 : Int) ≤ 128 ^ i by omega)
      rw [e2, ih (u / 128) (by omega) (i + 1) _ (by omega) (by rw [e3]; exact h1) (by omega) (by omega), e3]
      simp only [List.length_cons, Prod.mk.injEq, and_true, true_and]
      omega

/-- What is read was written so. -/
theorem vr_unique (l : List Int) : ∀ (i : Nat) (acc v k : Int), (∀ x ∈ l, (0 : Int) ≤ x ∧ x ≤ 255) → vr l i acc = (v, k, 0) →
    ∃ u : Nat, v = acc + u * 128 ^ i ∧ (0 < i → 0 < u) ∧ k = i + (vari u).length ∧ l.take (vari u).length = vari u := by
  induction l with
  | nil => intro i acc v k _ h; rw [vr_nil] at h; simp at h
  | cons x r ih =>
    intro i acc v k hr h
    have hx := hr x (by simp)
    by_cases h9 : i = 9 ∧ 1 < x
    · obtain ⟨rfl, h'⟩ := h9
      rw [vr_nine h'] at h
      simp at h
    · by_cases hlt : x < 128
      · by_cases hz : x = 0 ∧ 0 < i
        · obtain ⟨rfl, h'⟩ := hz
          rw [vr_zero h'] at h
          simp at h
        · rw [vr_end h9 hlt hz] at h
          simp only [Prod.mk.injEq, and_true] at h
          obtain ⟨rfl, rfl⟩ := h
          have e : ((x.toNat : Nat) : Int) = x := by omega
          refine ⟨x.toNat, by rw [e], by omega, ?_, ?_⟩
          · rw [vari_lt (by omega)]; simp
          · rw [vari_lt (by omega), e]; simp
      · rw [vr_on h9 (by omega)] at h
        obtain ⟨u, h1, h2, h3, h4⟩ := ih (i + 1) _ v k (fun y hy => hr y (by simp [hy])) h
        have hu := h2 (by omega)
        have hs := pow128_succ i
        have hd : (x.toNat % 128 + 128 * u) / 128 = u := by omega
        have hm : (x.toNat % 128 + 128 * u) % 128 + 128 = x.toNat := by omega
        have hv : vari (x.toNat % 128 + 128 * u) = x :: vari u := by
          rw [vari_ge (by omega), hd, hm]
          congr 1
          omega
        refine ⟨x.toNat % 128 + 128 * u, ?_, by omega, ?_, ?_⟩
        · rw [h1, hs, Int.add_assoc, ← Int.mul_assoc, ← Int.add_mul]
          congr 2
          omega
        · rw [hv, h3]; simp; omega
        · rw [hv]; simp [h4]

/-- A number that was read. -/
theorem ri_back (pre tail : List Int) (n : Int) (h0 : -9223372036854775808 ≤ n) (h1 : n ≤ 9223372036854775807) :
    ri (pre ++ encI n ++ tail) pre.length = (n, (pre.length : Int) + (encI n).length, 0) := by
  have hz := zig_rng n h0 h1
  have hd : (pre ++ encI n ++ tail).drop ((pre.length : Int)).toNat = encI n ++ tail := by simp
  have hv := vr_vari tail (zig n).toNat 0 0 (by omega) (by simp; omega) (by omega) (by omega)
  rw [show ((((zig n).toNat : Nat) : Int)) = zig n by omega] at hv
  have hl : (pre ++ encI n ++ tail).length = pre.length + (encI n).length + tail.length := by simp; omega
  have := ri_yes (l := pre ++ encI n ++ tail) (at_ := pre.length) (u := zig n) (k := (encI n).length) (by rw [hl]; omega) (by rw [hd]; unfold encI; rw [hv]; simp)
  rw [this, zag_zig]

theorem ri_rng (l : List Int) (at_ v nx e : Int) (hl : ∀ x ∈ l, (0 : Int) ≤ x ∧ x ≤ 255) (h : ri l at_ = (v, nx, e)) :
    (e = 0 ∧ 0 ≤ at_ ∧ at_ < nx ∧ nx ≤ l.length ∧ -9223372036854775808 ≤ v ∧ v ≤ 9223372036854775807) ∨ ((e = 2 ∨ e = 3 ∨ e = 4) ∧ v = 0 ∧ nx = 0) := by
  by_cases ha : at_ < 0 ∨ (l.length : Int) < at_
  · rw [ri_arg ha] at h
    simp only [Prod.mk.injEq] at h
    omega
  · have hv := vr_rng (l.drop at_.toNat) 0 0 (fun x hx => hl x (List.mem_of_mem_drop hx)) (by omega) (by omega) (by simp)
    obtain ⟨u, k, f, hu⟩ : ∃ u k f, vr (l.drop at_.toNat) 0 0 = (u, k, f) := ⟨_, _, _, rfl⟩
    rw [hu] at hv
    simp only [List.length_drop] at hv
    rcases hv with ⟨rfl, rfl, rfl⟩ | ⟨rfl, rfl, rfl⟩ | ⟨rfl, a, b, c, d⟩
    · rw [ri_no ha hu (by omega)] at h
      simp only [Prod.mk.injEq] at h
      omega
    · rw [ri_no ha hu (by omega)] at h
      simp only [Prod.mk.injEq] at h
      omega
    · rw [ri_yes ha hu] at h
      simp only [Prod.mk.injEq] at h
      have := zag_rng u a b
      omega

/-- Bytes that are read as an int are its encoding. -/
theorem ri_unique (l : List Int) (at_ v nx : Int) (hl : ∀ x ∈ l, (0 : Int) ≤ x ∧ x ≤ 255) (h : ri l at_ = (v, nx, 0)) :
    encI v = (l.drop at_.toNat).take (nx.toNat - at_.toNat) ∧ 0 ≤ at_ ∧ at_ < nx ∧ nx ≤ l.length := by
  rcases ri_rng l at_ v nx 0 hl h with ⟨_, g0, g1, g2, _⟩ | ⟨g, _⟩
  · refine ⟨?_, g0, g1, g2⟩
    have ha : ¬ (at_ < 0 ∨ (l.length : Int) < at_) := by omega
    obtain ⟨u, k, f, hu⟩ : ∃ u k f, vr (l.drop at_.toNat) 0 0 = (u, k, f) := ⟨_, _, _, rfl⟩
    by_cases hf : f = 0
    · subst hf
      rw [ri_yes ha hu] at h
      simp only [Prod.mk.injEq, and_true] at h
      obtain ⟨rfl, rfl⟩ := h
      obtain ⟨m, h1, _, h3, h4⟩ := vr_unique _ 0 0 u k (fun x hx => hl x (List.mem_of_mem_drop hx)) hu
      have e1 : u = m := by simpa using h1
      subst e1
      unfold encI
      rw [zig_zag _ (by omega), Int.toNat_natCast, show (at_ + k).toNat - at_.toNat = (vari m).length by omega, h4]
    · rw [ri_no ha hu hf] at h
      simp only [Prod.mk.injEq] at h
      omega
  · omega

end Go.Proofs.Ytcjlgfadjedgbaa

/- What fold, unfold, putInt and AppendInt return, and whether an index is one. -/
namespace Go.Proofs.Ytcjlgfadjedgbaa
open Go.RowKit Go.Sort

theorem ret_u64 {a b : Int} (h : a = b) : Ending.returned (.int .u64 a) = .returned (.int .u64 b) := by rw [h]
theorem ret_i64 {a b : Int} (h : a = b) : Ending.returned (.int .i64 a) = .returned (.int .i64 b) := by rw [h]

/-- '^n' of an int. -/
theorem not_i64 (n : Int) (h0 : -9223372036854775808 ≤ n) (h1 : n ≤ 9223372036854775807) : bits .xor .i64 (-1) n = -1 - n := by
  show IntKind.i64.wrap ((BitVec.ofInt 64 (-1) ^^^ BitVec.ofInt 64 n).toNat : Int) = _
  have e : BitVec.ofInt 64 (-1) = BitVec.allOnes 64 := by decide
  rw [e, BitVec.allOnes_xor, BitVec.toNat_not, BitVec.toNat_ofInt, IntKind.wrap_i64]
  omega

theorem u64_in (n : Int) (h0 : 0 ≤ n) (h1 : n < 18446744073709551616) : IntKind.u64.wrap n = n := by
  simp [IntKind.wrap, IntKind.bits, IntKind.signed]
  omega

theorem or128 (x : Int) (h0 : 0 ≤ x) (h1 : x < 256) : bits .or .u8 x 128 = x % 128 + 128 := by
  have h : ∀ n : Fin 256, bits .or .u8 ((n.val : Nat) : Int) 128 = ((n.val : Nat) : Int) % 128 + 128 := by decide +kernel
  have e : ((x.toNat : Nat) : Int) = x := by omega
  have := h ⟨x.toNat, by omega⟩
  rwa [e] at this

theorem put_room {l' l e : List Int} {v n M : Nat} (hl : Hid (l' ++ vari v = l ++ e)) (hn : l'.length = n) (hb : Hid (l.length + e.length ≤ M)) : n + 1 ≤ M := by
  have h1 := congrArg List.length hl.out
  have h2 := vari_pos v
  have h3 := hb.out
  simp only [List.length_append] at h1
  omega

theorem put_end {l' l e : List Int} {v : Nat} (hl : Hid (l' ++ vari v = l ++ e)) (hv : v < 128) : l' ++ [(v : Int)] = l ++ e := by
  rw [← hl.out, vari_lt hv]

theorem put_on {l' l e : List Int} {v : Nat} (hl : Hid (l' ++ vari v = l ++ e)) (hv : 128 ≤ v) (x : Int) (hx : x = ((v % 128 + 128 : Nat) : Int)) : l' ++ [x] ++ vari (v / 128) = l ++ e := by
  rw [← hl.out, vari_ge hv, hx, List.append_assoc]
  rfl

theorem fold_b (n : Int) (w : World) (h0 : -9223372036854775808 ≤ n) (h1 : n ≤ 9223372036854775807) :
    Calls Try.prog 115 #[.int .i64 n] w fun e w' => e = .returned (.int .u64 (zig n)) ∧ Below w.heap.size w w' := by
  have hx := not_i64 n h0 h1
  go_enter Try.func115, Try.ntmps115
  go_wp2
  · have hn : n < 0 := by assumption
    go_ret
    refine ⟨ret_u64 ?_, Below.refl _ _⟩
    rw [u64_in (-1 - n) (by omega) (by omega), u64_in (2 * (-1 - n)) (by omega) (by omega), u64_in _ (by omega) (by omega)]
    unfold zig
    rw [if_pos hn]
    omega
  · have hn : 0 ≤ n := by assumption
    go_ret
    exact ⟨ret_u64 (by unfold zig; rw [if_neg (by omega)]), Below.refl _ _⟩

set_option maxRecDepth 100000 in
theorem putInt_b (A : Option Addr) (n c base : Nat) (l : List Int) (x : Int) (w : World) (own : Own w base 5 .u8 A n c l) (h0 : -9223372036854775808 ≤ x) (h1 : x ≤ 9223372036854775807)
    (hb : l.length + (encI x).length ≤ 140737488355328) :
    Calls Try.prog 102 #[.slice A n c, .int .i64 x] w (GivesOwn w base 5 .u8 (l ++ encI x)) := by
  have hz := Lib.hid (zig_rng x h0 h1)
  have HB := Lib.hid hb
  clear hb
  go_enter Try.func102, Try.ntmps102
  go_wp2_with (go_at_call 115; refine (fold_b _ _ h0 h1).mono ?_; rintro _ W1 ⟨rfl, B⟩)
  go_loopw [0, 5] (fun s u wr => ∃ (A' : Option Addr) (n' c' : Nat) (l' : List Int) (v : Nat), s = .slice A' n' c' ∧ u = .int .u64 v ∧ v < 18446744073709551616 ∧ l' ++ vari v = l ++ encI x ∧ Own wr base 5 .u8 A' n' c' l' ∧ Below base w wr) (fun _ u _ => (intOf u).toNat)
  case atStart =>
    have := hz.out
    exact ⟨A, n, c, l, (zig x).toNat, rfl, by rw [show (((zig x).toNat : Nat) : Int) = zig x by omega], by omega, rfl, own.on B, B.mono own.2.2⟩
  case round =>
    clear own B
    obtain ⟨A, n, c, l', v, rfl, rfl, hv, hl, own, BB⟩ := hrel
    have HL := Lib.hid hl
    have HV := Lib.hid hv
    clear hl hv
    have room := put_room HL own.len HB
    by_cases hlt : v < 128
    · have e1 : ((v : Nat) : Int) % 256 = v := by omega
      go_wp2_with (at_builtin; refine wpList_app1 _ rfl _ _ _ rfl eB own rfl (by rw [u8_min, u8_max]; omega) rfl (by simp only [maxLen]; omega) (by omega) ?_; intro A1 n1 c1 W1 own1 B1)
      go_ret
      exact ⟨A1, n1, c1, rfl, by rw [← put_end HL hlt]; exact own1, BB.trans B1⟩
    · have hor := or128 (v % 256) (by omega) (by omega)
      go_wp2_with (at_builtin; refine wpList_app1 _ rfl _ _ _ rfl eB own rfl (by rw [u8_min, u8_max]; omega) rfl (by simp only [maxLen]; omega) (by omega) ?_; intro A1 n1 c1 W1 own1 B1)
      go_roundw
      case rel => exact ⟨A1, n1, c1, _, v / 128, rfl, by go_num, by have := HV.out; omega, put_on HL (by omega) _ (by omega), own1, BB.trans B1⟩
      case measure => simp [intOf]; omega

theorem appendInt_b (A : Option Addr) (n c : Nat) (l : List Int) (x : Int) (w : World) (R : Rd w w.heap.size .u8 A n l) (h0 : -9223372036854775808 ≤ x) (h1 : x ≤ 9223372036854775807)
    (hb : l.length + (encI x).length ≤ 140737488355328) :
    Calls Try.prog 80 #[.slice A n c, .int .i64 x] w (GivesRd w .u8 (l ++ encI x)) := by
  have hn : n ≤ 140737488355328 := by rw [← R.len]; omega
  have HB := Lib.hid hb
  clear hb
  go_enter Try.func80, Try.ntmps80
  go_wp2_with (first
    | (go_at_call 59; refine (clone_b _ _ _ _ _ R hn).mono ?_; rintro _ W1 ⟨A1, n1, c1, rfl, own1, B1⟩)
    | (go_at_call 102; refine (putInt_b _ _ _ _ _ _ _ own1 h0 h1 HB.out).mono ?_; rintro _ W2 ⟨A2, n2, c2, rfl, own2, B2⟩))
  go_ret
  exact ⟨A2, n2, c2, rfl, own2.room, own2.rd, B1.trans B2⟩

set_option maxRecDepth 100000 in
theorem rappendInt_b (A : Option Addr) (n c : Nat) (l : List Int) (x : Int) (w : World) (R : Rd w w.heap.size .u8 A n l) (h0 : -9223372036854775808 ≤ x) (h1 : x ≤ 9223372036854775807)
    (hb : l.length + (encI x).length ≤ 140737488355328) :
    Calls Try.prog 82 #[.slice A n c, .int .i64 x] w (GivesOwn w w.heap.size 5 .u8 (l ++ encI x)) := by
  have hn : n ≤ 140737488355328 := by rw [← R.len]; omega
  have hz := Lib.hid (zig_rng x h0 h1)
  have HZ : Hid (zig x = if x < 0 then -2 * x - 1 else 2 * x) := Lib.hid rfl
  have own0 := Own.made w 5 .u8
  have B0 : Below w.heap.size w (w.alloc (.cells #[] 5)) := (Below.refl _ _).alloc (Nat.le_refl _) _
  have HB := Lib.hid hb
  clear hb
  have R0 := R.below B0
  by_cases hx : x < 0
  all_goals
    go_enter Try.func82, Try.ntmps82
    go_wp2_with (at_builtin; refine wpList_app _ rfl _ _ _ rfl eB own0 rfl R0 rfl (by simp only [maxLen]; omega) (by omega) ?_; intro A1 n1 c1 W1 own1 B1)
    go_loopw [5, 6] (fun u s wr => ∃ (A' : Option Addr) (n' c' : Nat) (l' : List Int) (v : Nat), s = .slice A' n' c' ∧ u = .int .u64 v ∧ v < 18446744073709551616 ∧ l' ++ vari v = l ++ encI x ∧ Own wr w.heap.size 5 .u8 A' n' c' l' ∧ Below w.heap.size w wr) (fun u _ _ => (intOf u).toNat)
    case atStart =>
      have h2 := hz.out
      have h3 := HZ.out
      first | rw [if_pos hx] at h3 | rw [if_neg (by omega)] at h3
      exact ⟨A1, n1, c1, [] ++ l, (zig x).toNat, rfl, by rw [show (((zig x).toNat : Nat) : Int) = zig x by omega]; exact congrArg _ (by omega), by omega, rfl, own1, B0.trans B1⟩
    case round =>
      clear own0 own1 B1 B0 R0 R
      obtain ⟨A, n, c, l', v, rfl, rfl, hv, hl, own, BB⟩ := hrel
      have HL := Lib.hid hl
      have HV := Lib.hid hv
      clear hl hv
      have room := put_room HL own.len HB
      by_cases hlt : v < 128
      · have e1 : ((v : Nat) : Int) % 256 = v := by omega
        go_wp2_with (at_builtin; refine wpList_app1 _ rfl _ _ _ rfl eB own rfl (by rw [u8_min, u8_max]; omega) rfl (by simp only [maxLen]; omega) (by omega) ?_; intro A1 n1 c1 W1 own1 B1)
        go_ret
        exact ⟨A1, n1, c1, rfl, by rw [← put_end HL hlt]; exact own1, BB.trans B1⟩
      · have hq : IntKind.u64.wrap ((v : Int) / 128) = (v : Int) / 128 := u64_in _ (by omega) (by have := HV.out; omega)
        go_wp2_with (at_builtin; refine wpList_app1 _ rfl _ _ _ rfl eB own rfl (by rw [u8_min, u8_max]; omega) rfl (by simp only [maxLen]; omega) (by omega) ?_; intro A1 n1 c1 W1 own1 B1)
        go_roundw
        case rel => exact ⟨A1, n1, c1, _, v / 128, rfl, by go_num, by have := HV.out; omega, put_on HL (by omega) _ (by omega), own1, BB.trans B1⟩
        case measure => simp [intOf]; omega

end Go.Proofs.Ytcjlgfadjedgbaa

/- What AppendInts, AppendString and AppendBool return. -/
namespace Go.Proofs.Ytcjlgfadjedgbaa
open Go.RowKit Go.Sort

def encL (v : List Int) : List Int := encI v.length ++ v.flatMap encI
/-- A string's bytes. -/
def strL (s : ByteArray) : List Int := s.data.toList.map fun b => (b.toNat : Int)
def encS (s : ByteArray) : List Int := encI s.size ++ strL s
def encB (x : Bool) : List Int := [if x then 1 else 0]

theorem strL_len (s : ByteArray) : (strL s).length = s.size := by
  rw [strL, List.length_map, Array.length_toList]; rfl

theorem strL_drop (s : ByteArray) (k : Nat) (h : k < s.size) : (strL s).drop k = ((s[k]).toNat : Int) :: (strL s).drop (k + 1) := by
  have hl : k < (strL s).length := by rw [strL_len]; exact h
  rw [List.drop_eq_getElem_cons hl]
  congr 1
  simp [strL]
  rfl

/-- What is written of a list at its k-th element. -/
theorem list_step {v : List Int} {k : Nat} {x : Int} (hx : Hid (v[k]? = some x)) : v.drop k = x :: v.drop (k + 1) := by
  have h := hx.out
  have hl : k < v.length := by
    rcases Nat.lt_or_ge k v.length with h' | h'
    · exact h'
    · rw [List.getElem?_eq_none h'] at h; cases h
  rw [List.drop_eq_getElem_cons hl]
  rw [List.getElem?_eq_getElem hl] at h
  injection h with h
  rw [h]

theorem ints_on {d t v : List Int} {k : Nat} {x : Int} (h : Hid (d ++ (v.drop k).flatMap encI = t)) (hx : Hid (v[k]? = some x)) : (d ++ encI x) ++ (v.drop (k + 1)).flatMap encI = t := by
  rw [← h.out, list_step hx, List.flatMap_cons, List.append_assoc]

theorem ints_room {d t v : List Int} {k M : Nat} {x : Int} (h : Hid (d ++ (v.drop k).flatMap encI = t)) (hx : Hid (v[k]? = some x)) (ht : Hid (t.length ≤ M)) : d.length + (encI x).length ≤ M := by
  have h1 := congrArg List.length (ints_on h hx)
  have h2 := ht.out
  simp only [List.length_append] at h1
  omega

theorem ints_end {d t v : List Int} (h : Hid (d ++ (v.drop v.length).flatMap encI = t)) : d = t := by
  rw [← h.out]; simp

theorem encL_room {l v : List Int} {M : Nat} (h : Hid ((l ++ encL v).length ≤ M)) : l.length + (encI v.length).length ≤ M := by
  have := h.out
  unfold encL at this
  simp only [List.length_append] at this
  omega

theorem encL_start (l v : List Int) : (l ++ encI v.length) ++ (v.drop 0).flatMap encI = l ++ encL v := by
  unfold encL; simp

theorem encS_room {l : List Int} {s : ByteArray} {M : Nat} (h : Hid ((l ++ encS s).length ≤ M)) : l.length + (encI s.size).length ≤ M ∧ l.length + (encI s.size).length + s.size ≤ M := by
  have := h.out
  unfold encS at this
  simp only [List.length_append, strL_len] at this
  omega

theorem str_on {d t : List Int} {s : ByteArray} {k : Nat} (h : Hid (d ++ (strL s).drop k = t)) (hk : k < s.size) : (d ++ [((s[k]).toNat : Int)]) ++ (strL s).drop (k + 1) = t := by
  rw [← h.out, strL_drop s k hk, List.append_assoc]; rfl

theorem str_room {d t : List Int} {s : ByteArray} {k n M : Nat} (h : Hid (d ++ (strL s).drop k = t)) (hk : k < s.size) (hd : d.length = n) (ht : Hid (t.length ≤ M)) : n + 1 ≤ M := by
  have h1 := congrArg List.length h.out
  have h2 := ht.out
  simp only [List.length_append, List.length_drop, strL_len] at h1
  omega

theorem str_end {d t : List Int} {s : ByteArray} (h : Hid (d ++ (strL s).drop s.size = t)) : d = t := by
  rw [← h.out, ← strL_len s]; simp

end Go.Proofs.Ytcjlgfadjedgbaa

/- What Hash, Little and PutLittle return, of both. -/
namespace Go.Proofs.Ytcjlgfadjedgbaa
open Go.RowKit Go.Sort

/-- One byte more of a hash. -/
def hstep (h x : Int) : Int := IntKind.u64.wrap (bits .xor .u64 h x * 1099511628211)
def hashL (l : List Int) : Int := l.foldl hstep 14695981039346656037

theorem hash_on {l : List Int} {k : Nat} {h x : Int} (hh : Hid ((l.take k).foldl hstep 14695981039346656037 = h)) (hx : Hid (l[k]? = some x)) : (l.take (k + 1)).foldl hstep 14695981039346656037 = hstep h x := by
  have hl : k < l.length := by
    rcases Nat.lt_or_ge k l.length with h' | h'
    · exact h'
    · have := hx.out; rw [List.getElem?_eq_none h'] at this; cases this
  have h1 := hx.out
  rw [List.getElem?_eq_getElem hl] at h1
  injection h1 with h1
  rw [List.take_succ_eq_append_getElem hl, List.foldl_append, hh.out, h1]
  rfl

set_option maxRecDepth 100000 in
theorem hash_b (A : Option Addr) (n c : Nat) (l : List Int) (w : World) (R : Rd w w.heap.size .u8 A n l) (hn : n ≤ 9223372036854775807) :
    Calls Try.prog 81 #[.slice A n c] w fun e w' => e = .returned (.int .u64 (hashL l)) ∧ Below w.heap.size w w' := by
  have HL := Lib.hid R.len
  go_enter Try.func81, Try.ntmps81
  go_wp2
  go_loop [3, 8] (fun u i => ∃ (k : Nat) (h : Int), k ≤ n ∧ i = .int .i64 k ∧ u = .int .u64 h ∧ (l.take k).foldl hstep 14695981039346656037 = h) (fun _ i => n - (intOf i).toNat)
  case atStart => exact ⟨0, _, by omega, rfl, rfl, by simp⟩
  case round =>
    obtain ⟨k, h, hk, rfl, rfl, hh⟩ := hrel
    have HH := Lib.hid hh
    clear hh
    by_cases hlt : k < n
    · obtain ⟨b, off, x, rfl, cx, x0, x1, hx⟩ := R.byte hlt
      have hs : IntKind.u64.wrap (bits .xor .u64 h x * 1099511628211) = hstep h x := rfl
      clear R
      go_wp2
      go_round
      case rel => exact ⟨k + 1, _, by omega, by go_num, rfl, hash_on HH hx⟩
      case measure => simp [intOf]; omega
    · obtain rfl : k = n := by omega
      clear R
      go_wp2
      go_ret
      exact ⟨ret_u64 (by rw [← HH.out, ← HL.out]; simp [hashL]), Below.refl _ _⟩

set_option maxRecDepth 100000 in
theorem rhash_b (A : Option Addr) (n c : Nat) (l : List Int) (w : World) (R : Rd w w.heap.size .u8 A n l) (hn : n ≤ 9223372036854775807) :
    Calls Try.prog 83 #[.slice A n c] w fun e w' => e = .returned (.int .u64 (hashL l)) ∧ Below w.heap.size w w' := by
  have HL := Lib.hid R.len
  go_enter Try.func83, Try.ntmps83
  go_wp2
  go_loop [3, 4] (fun u i => ∃ (k : Nat) (h : Int), k ≤ n ∧ i = .int .i64 k ∧ u = .int .u64 h ∧ (l.take k).foldl hstep 14695981039346656037 = h) (fun _ i => n - (intOf i).toNat)
  case atStart => exact ⟨0, _, by omega, rfl, rfl, by simp⟩
  case round =>
    obtain ⟨k, h, hk, rfl, rfl, hh⟩ := hrel
    have HH := Lib.hid hh
    clear hh
    by_cases hlt : k < n
    · obtain ⟨b, off, x, rfl, cx, x0, x1, hx⟩ := R.byte hlt
      have hs : IntKind.u64.wrap (bits .xor .u64 h x * 1099511628211) = hstep h x := rfl
      clear R
      go_wp2
      go_round
      case rel => exact ⟨k + 1, _, by omega, by go_num, rfl, hash_on HH hx⟩
      case measure => simp [intOf]; omega
    · obtain rfl : k = n := by omega
      clear R
      go_wp2
      go_ret
      exact ⟨ret_u64 (by rw [← HH.out, ← HL.out]; simp [hashL]), Below.refl _ _⟩

/-! ### Little -/

def fits (n : Nat) (a s : Int) : Prop := 1 ≤ s ∧ s ≤ 4 ∧ 0 ≤ a ∧ a ≤ n - s

theorem hasNumber_yes (A : Option Addr) (n c : Nat) (a s : Int) (w : World) (hn : n ≤ 9223372036854775807) (h : fits n a s) :
    Calls Try.prog 103 #[.slice A n c, .int .i64 a, .int .i64 s] w fun e w' => e = .returned (.bool true) ∧ Below w.heap.size w w' := by
  obtain ⟨h1, h2, h3, h4⟩ := h
  go_enter Try.func103, Try.ntmps103
  go_wp2
  go_ret
  exact ⟨congrArg (fun b => Ending.returned (.bool b)) (by simp <;> omega), Below.refl _ _⟩

theorem hasNumber_no (A : Option Addr) (n c : Nat) (a s : Int) (w : World) (hn : n ≤ 9223372036854775807) (h : ¬ fits n a s) :
    Calls Try.prog 103 #[.slice A n c, .int .i64 a, .int .i64 s] w fun e w' => e = .returned (.bool false) ∧ Below w.heap.size w w' := by
  unfold fits at h
  by_cases h1 : 1 ≤ s <;> by_cases h2 : s ≤ 4 <;> by_cases h3 : 0 ≤ a <;> by_cases h4 : a ≤ n - s
  all_goals first
    | (exfalso; omega)
    | (clear h
       go_enter Try.func103, Try.ntmps103
       go_wp2
       go_ret
       exact ⟨congrArg (fun b => Ending.returned (.bool b)) (by simp <;> omega), Below.refl _ _⟩)

end Go.Proofs.Ytcjlgfadjedgbaa

/- What Little and PutLittle return, of both. -/
namespace Go.Proofs.Ytcjlgfadjedgbaa
open Go.RowKit Go.Sort

/-- The number of some bytes, the least significant one first. -/
def litv : List Int → Int
  | [] => 0
  | x :: r => x + 256 * litv r

theorem pow256_succ (i : Nat) : (256 : Int) ^ (i + 1) = 256 * 256 ^ i := by rw [Int.pow_succ, Int.mul_comm]
theorem pow256_pos (i : Nat) : (1 : Int) ≤ 256 ^ i := by
  have := Nat.one_le_pow i 256 (by omega)
  have e : (256 : Int) ^ i = ((256 ^ i : Nat) : Int) := by simp
  omega
theorem pow256_le {i j : Nat} (h : i ≤ j) : (256 : Int) ^ i ≤ 256 ^ j := by
  have := Nat.pow_le_pow_right (n := 256) (by omega) h
  have e : ∀ i, (256 : Int) ^ i = ((256 ^ i : Nat) : Int) := by intro i; simp
  rw [e, e]; omega
theorem pow_8 (k : Nat) : (2 : Int) ^ (8 * k) = 256 ^ k := by rw [Int.pow_mul]; rfl

theorem litv_append (l : List Int) (x : Int) : litv (l ++ [x]) = litv l + x * 256 ^ l.length := by
  induction l with
  | nil => simp [litv]
  | cons y r ih => simp only [List.cons_append, litv, ih, List.length_cons, pow256_succ, Int.mul_add]; rw [← Int.mul_assoc, ← Int.mul_assoc, Int.mul_comm x 256]; omega

theorem litv_rng (l : List Int) (h : ∀ x ∈ l, (0 : Int) ≤ x ∧ x ≤ 255) : 0 ≤ litv l ∧ litv l < 256 ^ l.length := by
  induction l with
  | nil => simp [litv]
  | cons x r ih =>
    have h1 := h x (by simp)
    have h2 := ih fun y hy => h y (by simp [hy])
    simp only [litv, List.length_cons, pow256_succ]
    omega

theorem or_i64 (m : Nat) (acc y : Int) (h0 : 0 ≤ acc) (h1 : acc < 2 ^ m) (h2 : 0 ≤ y) (h3 : acc + y * 2 ^ m < 9223372036854775808) : bits .or .i64 acc (y * 2 ^ m) = acc + y * 2 ^ m := by
  have e : (2 : Int) ^ m = ((2 ^ m : Nat) : Int) := by simp
  have hy : y * 2 ^ m = ((2 ^ m * y.toNat : Nat) : Int) := by
    rw [e, Int.natCast_mul, Int.toNat_of_nonneg h2, Int.mul_comm]
  have hp : 0 ≤ y * 2 ^ m := by rw [hy]; exact Int.natCast_nonneg _
  have a1 : (BitVec.ofInt 64 acc).toNat = acc.toNat := by rw [BitVec.toNat_ofInt]; omega
  have a2 : (BitVec.ofInt 64 (y * 2 ^ m)).toNat = 2 ^ m * y.toNat := by rw [BitVec.toNat_ofInt, hy]; omega
  have key : (BitVec.ofInt 64 acc ||| BitVec.ofInt 64 (y * 2 ^ m)).toNat = 2 ^ m * y.toNat + acc.toNat := by
    rw [BitVec.toNat_or, a1, a2, Nat.or_comm]
    exact (Nat.two_pow_add_eq_or_of_lt (i := m) (b := acc.toNat) (by omega) y.toNat).symm
  show IntKind.i64.wrap ((BitVec.ofInt 64 acc ||| BitVec.ofInt 64 (y * 2 ^ m)).toNat : Nat) = acc + y * 2 ^ m
  rw [key, IntKind.wrap_i64]
  omega

theorem byte_on (k : Nat) (x acc : Int) (hk : k < 4) (h0 : 0 ≤ acc) (h1 : acc < 256 ^ k) (x0 : 0 ≤ x) (x1 : x < 256) :
    wrap64 (x * 2 ^ (8 * k)) = x * 256 ^ k ∧ bits .or .i64 acc (x * 256 ^ k) = acc + x * 256 ^ k ∧ 0 ≤ acc + x * 256 ^ k ∧ acc + x * 256 ^ k < 256 ^ (k + 1) := by
  have hp := pow256_pos k
  have hs := pow256_succ k
  have hm := Int.mul_le_mul_of_nonneg_right (show x ≤ 255 by omega) (show (0 : Int) ≤ 256 ^ k by omega)
  have hm0 := Int.mul_nonneg x0 (show (0 : Int) ≤ 256 ^ k by omega)
  have h3 := pow256_le (show k ≤ 3 by omega)
  have e : (256 : Int) ^ 3 = 16777216 := by decide
  refine ⟨?_, ?_, by omega, by omega⟩
  · rw [pow_8]; exact IntWalk.wrap64_in _ (by omega)
  · rw [← pow_8] at h1 hm hm0 h3 ⊢
    exact or_i64 (8 * k) acc x h0 h1 x0 (by omega)

/-- m bytes from p on. -/
def part (l : List Int) (p m : Nat) : List Int := (l.drop p).take m

theorem part_at {l : List Int} {p k : Nat} {x : Int} (hx : Hid (l[p + k]? = some x)) : part l p (k + 1) = part l p k ++ [x] := by
  have h := hx.out
  have h2 : (l.drop p)[k]? = some x := by rw [List.getElem?_drop]; exact h
  have hl : k < (l.drop p).length := by
    rcases Nat.lt_or_ge k (l.drop p).length with h' | h'
    · exact h'
    · rw [List.getElem?_eq_none h'] at h2; cases h2
  rw [List.getElem?_eq_getElem hl] at h2
  injection h2 with h2
  unfold part
  rw [List.take_succ_eq_append_getElem hl, h2]

theorem part_len {l : List Int} {p m : Nat} (h : p + m ≤ l.length) : (part l p m).length = m := by
  unfold part; rw [List.length_take, List.length_drop]; omega

theorem part_rng {l : List Int} {p m : Nat} (h : ∀ x ∈ l, (0 : Int) ≤ x ∧ x ≤ 255) : ∀ x ∈ part l p m, (0 : Int) ≤ x ∧ x ≤ 255 :=
  fun x hx => h x (List.mem_of_mem_drop (List.mem_of_mem_take hx))

theorem lit_on {l : List Int} {p k n : Nat} {x : Int} (hl : l.length = n) (hp : p + k ≤ n) (hx : Hid (l[p + k]? = some x)) : litv (part l p (k + 1)) = litv (part l p k) + x * 256 ^ k := by
  rw [part_at hx, litv_append, part_len (by omega)]

theorem part_drop {l : List Int} {p m q : Nat} {x : Int} (hq : q < m) (hx : Hid (l[p + q]? = some x)) : (part l p m).drop q = x :: (part l p m).drop (q + 1) := by
  refine list_step (Lib.hid ?_)
  unfold part
  rw [List.getElem?_take, if_pos hq, List.getElem?_drop]
  exact hx.out

theorem rd_rng255 {w : World} {B n : Nat} {A : Option Addr} {l : List Int} (R : Rd w B .u8 A n l) : ∀ x ∈ l, (0 : Int) ≤ x ∧ x ≤ 255 := by
  intro x hx
  have := R.rng x hx
  rw [u8_min, u8_max] at this
  exact this

set_option maxRecDepth 100000 in
theorem little_yes (A : Option Addr) (n c p m : Nat) (l : List Int) (w : World) (R : Rd w w.heap.size .u8 A n l) (hn : n ≤ 9223372036854775807) (m1 : 1 ≤ m) (m4 : m ≤ 4) (hp : p + m ≤ n) :
    Calls Try.prog 89 #[.slice A n c, .int .i64 p, .int .i64 m] w fun e w' => e = .returned (.int .i64 (litv (part l p m))) ∧ Below w.heap.size w w' := by
  have HL := Lib.hid R.len
  have HR := Lib.hid (rd_rng255 R)
  have HF : Hid (fits n p m) := Lib.hid ⟨by omega, by omega, by omega, by omega⟩
  go_enter Try.func89, Try.ntmps89
  go_wp2_with (go_at_call 103; refine (hasNumber_yes _ _ _ _ _ _ hn HF.out).mono ?_; rintro _ W1 ⟨rfl, B1⟩)
  replace R := R.below B1
  go_loop [7, 15] (fun u i => ∃ (k : Nat) (acc : Int), k ≤ m ∧ i = .int .i64 k ∧ u = .int .i64 acc ∧ litv (part l p k) = acc) (fun _ i => m - (intOf i).toNat)
  case atStart => exact ⟨0, 0, by omega, rfl, rfl, by simp [part, litv]⟩
  case round =>
    obtain ⟨k, acc, hk, rfl, rfl, hh⟩ := hrel
    have HH := Lib.hid hh
    clear hh
    by_cases hlt : k < m
    · obtain ⟨b, off, x, rfl, cx, x0, x1, hx⟩ := R.byte (j := p + k) (by omega)
      have hr := litv_rng (part l p k) (part_rng HR.out)
      rw [HH.out, part_len (by rw [HL.out]; omega)] at hr
      obtain ⟨g1, g2, _, _⟩ := byte_on k x acc (by omega) hr.1 hr.2 x0 x1
      have ho := lit_on HL.out (by omega) hx
      rw [HH.out] at ho
      obtain ⟨y, hy⟩ : ∃ y, y = x * 256 ^ k := ⟨_, rfl⟩
      rw [← hy] at g1 g2 ho
      have HO := Lib.hid ho
      have G1 := Lib.hid g1
      have G2 := Lib.hid g2
      clear hy ho hr R g1 g2
      have hpi : (p : Int) + k < (n : Int) := by omega
      go_wp2
      go_round
      case rel => exact ⟨k + 1, _, by omega, by go_num, rfl, by rw [HO.out, G1.out, G2.out]⟩
      case measure => simp [intOf]; omega
    · obtain rfl : k = m := by omega
      clear R
      go_wp2
      go_ret
      exact ⟨ret_i64 HH.out.symm, B1⟩

theorem little_no (A : Option Addr) (n c : Nat) (a s : Int) (w : World) (hn : n ≤ 9223372036854775807) (h : ¬ fits n a s) :
    Calls Try.prog 89 #[.slice A n c, .int .i64 a, .int .i64 s] w fun e w' => e = .returned (.int .i64 0) ∧ Below w.heap.size w w' := by
  have HF := Lib.hid h
  clear h
  go_enter Try.func89, Try.ntmps89
  go_wp2_with (go_at_call 103; refine (hasNumber_no _ _ _ _ _ _ hn HF.out).mono ?_; rintro _ W1 ⟨rfl, B1⟩)
  go_ret
  exact ⟨rfl, B1⟩

/-! ### PutLittle -/

/-- j bytes of v are put from p on. -/
def putL (l : List Int) (p : Nat) (v : Int) : Nat → List Int
  | 0 => l
  | j + 1 => (putL l p v j).set (p + j) (v / 256 ^ j % 256)

theorem putL_len (l : List Int) (p : Nat) (v : Int) (j : Nat) : (putL l p v j).length = l.length := by
  induction j with
  | zero => rfl
  | succ j ih => rw [putL, List.length_set, ih]

set_option maxRecDepth 100000 in
theorem putLittle_yes (A : Option Addr) (n c p m : Nat) (l : List Int) (v : Int) (w : World) (R : Rd w w.heap.size .u8 A n l) (hn : n ≤ 140737488355328) (m1 : 1 ≤ m) (m4 : m ≤ 4) (hp : p + m ≤ n) :
    Calls Try.prog 85 #[.slice A n c, .int .i64 p, .int .i64 m, .int .i64 v] w (GivesOwn w w.heap.size 5 .u8 (putL l p v m)) := by
  have hn' : n ≤ 9223372036854775807 := by omega
  have HL := Lib.hid R.len
  have HF : Hid (fits n p m) := Lib.hid ⟨by omega, by omega, by omega, by omega⟩
  go_enter Try.func85, Try.ntmps85
  go_wp2_with (first
    | (go_at_call 59; refine (clone_b _ _ _ _ _ R hn).mono ?_; rintro _ W1 ⟨A1, n1, c1, rfl, own1, B1⟩)
    | (go_at_call 103; refine (hasNumber_yes _ _ _ _ _ _ hn' HF.out).mono ?_; rintro _ W2 ⟨rfl, B2⟩))
  obtain rfl : n1 = n := by rw [← own1.len, HL.out]
  replace own1 := own1.on B2
  go_loopw [20] (fun i wr => ∃ k : Nat, k ≤ m ∧ i = .int .i64 k ∧ Own wr w.heap.size 5 .u8 A1 n1 c1 (putL l p v k) ∧ Below w.heap.size w wr) (fun i _ => m - (intOf i).toNat)
  case atStart => exact ⟨0, by omega, rfl, own1, bon B1 B2⟩
  case round =>
    clear own1 B1 B2 R
    obtain ⟨k, hk, rfl, own, BB⟩ := hrel
    by_cases hlt : k < m
    · have hpi : (p : Int) + k < (n1 : Int) := by omega
      obtain ⟨b, rfl, hbb, ⟨u, cu⟩, fu, own2, B2⟩ := own.stored (j := p + k) (v := v / 256 ^ k % 256) (by omega) (by rw [u8_min, u8_max]; omega)
      rw [← pow_8] at own2 B2
      clear own
      go_wp2
      go_roundw
      case rel => exact ⟨k + 1, by omega, by go_num, by rw [putL, ← pow_8]; exact own2, BB.trans B2⟩
      case measure => simp [intOf]; omega
    · obtain rfl : k = m := by omega
      go_wp2
      go_ret
      exact ⟨A1, n1, c1, rfl, own, BB⟩

theorem putLittle_no (A : Option Addr) (n c : Nat) (l : List Int) (a s v : Int) (w : World) (R : Rd w w.heap.size .u8 A n l) (hn : n ≤ 140737488355328) (h : ¬ fits n a s) :
    Calls Try.prog 85 #[.slice A n c, .int .i64 a, .int .i64 s, .int .i64 v] w (GivesOwn w w.heap.size 5 .u8 l) := by
  have hn' : n ≤ 9223372036854775807 := by omega
  have HF := Lib.hid h
  clear h
  go_enter Try.func85, Try.ntmps85
  go_wp2_with (first
    | (go_at_call 59; refine (clone_b _ _ _ _ _ R hn).mono ?_; rintro _ W1 ⟨A1, n1, c1, rfl, own1, B1⟩)
    | (go_at_call 103; refine (hasNumber_no _ _ _ _ _ _ hn' HF.out).mono ?_; rintro _ W2 ⟨rfl, B2⟩))
  go_ret
  exact ⟨A1, n1, c1, rfl, own1.on B2, bon B1 B2⟩

end Go.Proofs.Ytcjlgfadjedgbaa
