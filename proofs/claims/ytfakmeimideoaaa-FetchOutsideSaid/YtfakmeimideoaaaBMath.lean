/- The numbers and bytes of vertex formats. No function of a program is named here. -/
import Derived.Test.YtfakmeimideoaaaTMath
namespace Go.Proofs.Ytfakmeimideoaaa
open Go.RowKit Go.Sort

/-- How many components a format has, how many bytes each has. -/
def cps (f : Int) : Nat := if f = 1 then 1 else if f = 2 then 2 else if f = 3 then 3 else if f = 4 then 4 else if f = 5 then 4 else if f = 6 then 2 else if f = 7 then 4 else if f = 8 then 1 else 0
def csz (f : Int) : Nat := if f = 5 then 1 else if f = 6 then 2 else if f = 7 then 2 else 4

/-- 32 bits as a number with a sign. -/
def sg (n : Int) : Int := if 2147483648 ≤ n then n - 4294967296 else n

/-- What stored bits stand for; the number whose lowest bytes are stored. -/
def dcd (f n : Int) : Int := if f = 5 then rdv (n * 65536) 255 else if f = 6 ∨ f = 7 then dv n else if f = 8 then sg n else sat (sg n)
def ecd (f x : Int) : Int := if f = 5 then rdv (clampv x 0 65536 * 255) 65536 else if f = 6 ∨ f = 7 then hv x else if f = 8 then wrapv x else sat x

theorem dcd_5 (n : Int) : dcd 5 n = rdv (n * 65536) 255 := by unfold dcd; rw [if_pos rfl]
theorem dcd_half {f : Int} (h : f = 6 ∨ f = 7) (n : Int) : dcd f n = dv n := by unfold dcd; rw [if_neg (by omega), if_pos h]
theorem dcd_8 (n : Int) : dcd 8 n = sg n := by unfold dcd; rw [if_neg (by omega), if_neg (by omega), if_pos rfl]
theorem dcd_fix {f : Int} (h : f ≠ 5 ∧ f ≠ 6 ∧ f ≠ 7 ∧ f ≠ 8) (n : Int) : dcd f n = sat (sg n) := by unfold dcd; rw [if_neg h.1, if_neg (by omega), if_neg h.2.2.2]
theorem ecd_5 (x : Int) : ecd 5 x = rdv (clampv x 0 65536 * 255) 65536 := by unfold ecd; rw [if_pos rfl]
theorem ecd_half {f : Int} (h : f = 6 ∨ f = 7) (x : Int) : ecd f x = hv x := by unfold ecd; rw [if_neg (by omega), if_pos h]
theorem ecd_8 (x : Int) : ecd 8 x = wrapv x := by unfold ecd; rw [if_neg (by omega), if_neg (by omega), if_pos rfl]
theorem ecd_fix {f : Int} (h : f ≠ 5 ∧ f ≠ 6 ∧ f ≠ 7 ∧ f ≠ 8) (x : Int) : ecd f x = sat x := by unfold ecd; rw [if_neg h.1, if_neg (by omega), if_neg h.2.2.2]

theorem vf_cases (f : Int) : f = 1 ∨ f = 2 ∨ f = 3 ∨ f = 4 ∨ f = 5 ∨ f = 6 ∨ f = 7 ∨ f = 8 ∨ (f ≠ 1 ∧ f ≠ 2 ∧ f ≠ 3 ∧ f ≠ 4 ∧ f ≠ 5 ∧ f ≠ 6 ∧ f ≠ 7 ∧ f ≠ 8) := by omega
theorem cps_none {f : Int} (h : f ≠ 1 ∧ f ≠ 2 ∧ f ≠ 3 ∧ f ≠ 4 ∧ f ≠ 5 ∧ f ≠ 6 ∧ f ≠ 7 ∧ f ≠ 8) : cps f = 0 := by
  unfold cps
  rw [if_neg h.1, if_neg h.2.1, if_neg h.2.2.1, if_neg h.2.2.2.1, if_neg h.2.2.2.2.1, if_neg h.2.2.2.2.2.1, if_neg h.2.2.2.2.2.2.1, if_neg h.2.2.2.2.2.2.2]
theorem csz_none {f : Int} (h : f ≠ 5 ∧ f ≠ 6 ∧ f ≠ 7) : csz f = 4 := by unfold csz; rw [if_neg h.1, if_neg h.2.1, if_neg h.2.2]
theorem cps_le (f : Int) : cps f ≤ 4 := by
  rcases vf_cases f with rfl | rfl | rfl | rfl | rfl | rfl | rfl | rfl | h
  all_goals first | decide | (rw [cps_none h]; omega)
theorem cps_pos {f : Int} : 0 < cps f ↔ 1 ≤ f ∧ f ≤ 8 := by
  rcases vf_cases f with rfl | rfl | rfl | rfl | rfl | rfl | rfl | rfl | h
  all_goals first | decide | (rw [cps_none h]; omega)
theorem csz_rng (f : Int) : 1 ≤ csz f ∧ csz f ≤ 4 := by
  unfold csz
  repeat' split
  all_goals omega

theorem sg_wrap {n : Int} (h0 : 0 ≤ n) (h1 : n < 4294967296) : wrapv n = sg n := by unfold wrapv sg; split <;> omega
theorem sg_rng {n : Int} (h0 : 0 ≤ n) (h1 : n < 4294967296) : -2147483648 ≤ sg n ∧ sg n ≤ 2147483647 := by unfold sg; split <;> omega
theorem sg_back {v : Int} (h0 : -2147483648 ≤ v) (h1 : v ≤ 2147483647) : sg (v % 4294967296) = v := by unfold sg; split <;> omega
theorem wrapv_rng (v : Int) : -2147483648 ≤ wrapv v ∧ wrapv v ≤ 2147483647 := by unfold wrapv; omega
theorem wrapv_id {v : Int} (h0 : -2147483648 ≤ v) (h1 : v ≤ 2147483647) : wrapv v = v := by unfold wrapv; omega

theorem lb4 (n : Int) : lb 4 n = [n % 256, n / 256 % 256, n / 256 / 256 % 256, n / 256 / 256 / 256 % 256] := rfl
theorem lb4_wrap (v : Int) : lb 4 (wrapv v) = lb 4 v := by
  rw [lb4, lb4]
  unfold wrapv
  congr 1
  · omega
  · congr 1
    · omega
    · congr 1
      · omega
      · congr 1
        omega
theorem litv_lb4 (n : Int) : litv (lb 4 n) = n % 4294967296 := by
  show n % 256 + 256 * (n / 256 % 256 + 256 * (n / 256 / 256 % 256 + 256 * (n / 256 / 256 / 256 % 256 + 256 * 0))) = n % 4294967296
  omega

/-- Putting bytes puts the lowest ones of the number in the place of those that were there. -/
theorem putL_eq (l : List Int) (p : Nat) (v : Int) (j : Nat) (h : p + j ≤ l.length) : putL l p v j = l.take p ++ (lb j v ++ l.drop (p + j)) := by
  induction j with
  | zero => simp [putL, lb]
  | succ j ih =>
    have hp : (l.take p).length = p := by rw [List.length_take]; omega
    have hb := lb_len j v
    rw [putL, ih (by omega), List.set_append_right _ _ (by omega), hp, List.set_append_right _ _ (by omega), hb, lb_snoc, show p + j - p - j = 0 by omega]
    rw [List.drop_eq_getElem_cons (show p + j < l.length by omega), List.set_cons_zero, List.append_assoc]
    rfl
theorem putL_mid {a z b : List Int} {v : Int} {m : Nat} (h : z.length = m) : putL (a ++ (z ++ b)) a.length v m = a ++ (lb m v ++ b) := by
  rw [putL_eq _ _ _ _ (by simp; omega), List.take_left, ← List.drop_drop, List.drop_left, ← h, List.drop_left]
theorem part_mid {a z b : List Int} {m : Nat} (h : z.length = m) : part (a ++ (z ++ b)) a.length m = z := by
  unfold part
  rw [List.drop_left, ← h, List.take_left]
theorem part_putL {l : List Int} {p : Nat} {v : Int} {m : Nat} (h : p + m ≤ l.length) : part (putL l p v m) p m = lb m v := by
  have hp : (l.take p).length = p := by rw [List.length_take]; omega
  rw [putL_eq _ _ _ _ h]
  have := part_mid (a := l.take p) (z := lb m v) (b := l.drop (p + m)) (lb_len m v)
  rwa [hp] at this
theorem putL_wrap (l : List Int) (p : Nat) (v : Int) (h : p + 4 ≤ l.length) : putL l p (wrapv v) 4 = putL l p v 4 := by
  rw [putL_eq _ _ _ _ h, putL_eq _ _ _ _ h, lb4_wrap]
theorem putL_other {l : List Int} {p m j : Nat} {v : Int} (h : p + m ≤ l.length) (hj : j < p ∨ p + m ≤ j) : (putL l p v m)[j]? = l[j]? := by
  have hp : (l.take p).length = p := by rw [List.length_take]; omega
  rw [putL_eq _ _ _ _ h]
  rcases hj with hj | hj
  · rw [List.getElem?_append_left (by omega), List.getElem?_take, if_pos hj]
  · rw [List.getElem?_append_right (by omega), List.getElem?_append_right (by rw [lb_len]; omega), List.getElem?_drop, hp, lb_len]
    congr 1
    omega
theorem putL_rng {l : List Int} {p m : Nat} {v : Int} (h : p + m ≤ l.length) (hl : ∀ x ∈ l, (0 : Int) ≤ x ∧ x ≤ 255) : ∀ x ∈ putL l p v m, (0 : Int) ≤ x ∧ x ≤ 255 := by
  intro x hx
  rw [putL_eq _ _ _ _ h] at hx
  rcases List.mem_append.1 hx with hx | hx
  · exact hl x (List.mem_of_mem_take hx)
  · rcases List.mem_append.1 hx with hx | hx
    · exact lb_rng _ _ x hx
    · exact hl x (List.mem_of_mem_drop hx)

/-! ### loads -/
/-- An int that is loaded, one that is stored. -/
def ldi (l : List Int) (i : Int) : Int := if 0 ≤ i ∧ i < (l.length : Int) / 4 then sg (litv (part l (4 * i.toNat) 4)) else 0
def sti (l : List Int) (i v : Int) : List Int := if 0 ≤ i ∧ i < (l.length : Int) / 4 then putL l (4 * i.toNat) v 4 else l

theorem lit4_rng {l : List Int} {p : Nat} (h : ∀ x ∈ l, (0 : Int) ≤ x ∧ x ≤ 255) (hp : p + 4 ≤ l.length) : 0 ≤ litv (part l p 4) ∧ litv (part l p 4) < 4294967296 := by
  have := litv_rng (part l p 4) (part_rng h)
  rw [part_len hp] at this
  exact this
theorem lit2_rng {l : List Int} {p : Nat} (h : ∀ x ∈ l, (0 : Int) ≤ x ∧ x ≤ 255) (hp : p + 2 ≤ l.length) : 0 ≤ litv (part l p 2) ∧ litv (part l p 2) < 65536 := by
  have := litv_rng (part l p 2) (part_rng h)
  rw [part_len hp] at this
  exact this
theorem lit1_rng {l : List Int} {p : Nat} (h : ∀ x ∈ l, (0 : Int) ≤ x ∧ x ≤ 255) (hp : p + 1 ≤ l.length) : 0 ≤ litv (part l p 1) ∧ litv (part l p 1) < 256 := by
  have := litv_rng (part l p 1) (part_rng h)
  rw [part_len hp] at this
  exact this
theorem lit1_at {l : List Int} {p : Nat} {x : Int} (h : l[p]? = some x) : litv (part l p 1) = x := by
  have hp : p < l.length := (List.getElem?_eq_some_iff.1 h).1
  unfold part
  rw [List.drop_eq_getElem_cons hp, List.take_succ_cons, List.take_zero, litv, litv]
  have := (List.getElem?_eq_some_iff.1 h).2
  omega

/-- What is stored is loaded. -/
theorem ldi_sti {l : List Int} {i v : Int} (h : 0 ≤ i ∧ i < (l.length : Int) / 4) (h0 : -2147483648 ≤ v) (h1 : v ≤ 2147483647) : ldi (sti l i v) i = v := by
  have hp : 4 * i.toNat + 4 ≤ l.length := by omega
  unfold ldi sti
  rw [if_pos h, putL_len, if_pos h, part_putL hp, litv_lb4, sg_back h0 h1]
theorem sti_len (l : List Int) (i v : Int) : (sti l i v).length = l.length := by unfold sti; split; rw [putL_len]; rfl
theorem sti_other {l : List Int} {i v : Int} {j : Nat} (h : ¬ (0 ≤ i ∧ i < (l.length : Int) / 4) ∨ (j : Int) / 4 ≠ i) : (sti l i v)[j]? = l[j]? := by
  unfold sti
  split
  · refine putL_other (by omega) ?_
    omega
  · rfl
theorem ldi_rng {l : List Int} (i : Int) (h : ∀ x ∈ l, (0 : Int) ≤ x ∧ x ≤ 255) : -2147483648 ≤ ldi l i ∧ ldi l i ≤ 2147483647 := by
  unfold ldi
  split
  · have := lit4_rng (l := l) (p := 4 * i.toNat) h (by omega)
    exact sg_rng this.1 this.2
  · omega
theorem ldi_out {l : List Int} {i : Int} (h : ¬ (0 ≤ i ∧ i < (l.length : Int) / 4)) : ldi l i = 0 := if_neg h

/-- The first k components that are loaded from at. -/
def lat (f : Int) (l : List Int) (at_ : Nat) : Nat → List Int
  | 0 => []
  | k + 1 => lat f l at_ k ++ [dcd f (litv (part l (at_ + k * csz f) (csz f)))]
theorem lat_len (f : Int) (l : List Int) (p : Nat) : ∀ k, (lat f l p k).length = k := by
  intro k
  induction k with
  | zero => rfl
  | succ k ih => simp [lat, ih]

/-- A valid attribute. -/
def attr (b o s f : Int) : Prop := (0 ≤ b ∧ b < 4) ∧ (0 ≤ o ∧ o ≤ 4096) ∧ (0 ≤ s ∧ s ≤ 256) ∧ 0 < cps f
instance (b o s f : Int) : Decidable (attr b o s f) := by unfold attr; exact inferInstance

/-- The bytes of an attribute. -/
def sizv (f : Int) : Nat := cps f * csz f

theorem sizv_le (f : Int) : sizv f ≤ 16 := by
  have h1 := cps_le f
  have h2 := csz_rng f
  exact Nat.mul_le_mul h1 h2.2

/-- What an attribute's load gives. -/
def ldv (l : List Int) (b o s f v : Int) : List Int :=
  if attr b o s f then (if 0 ≤ v ∧ v ≤ 65536 ∧ o + v * s + (sizv f : Nat) ≤ l.length then lat f l (o + v * s).toNat (cps f) else List.replicate (cps f) 0) else []

/-! ### what is appended -/
/-- The bytes of the first k components of vs. -/
def bts (f : Int) (vs : List Int) : Nat → List Int
  | 0 => []
  | k + 1 => bts f vs k ++ lb (csz f) (ecd f (vs.getD k 0))
theorem bts_len (f : Int) (vs : List Int) : ∀ k, (bts f vs k).length = k * csz f := by
  intro k
  induction k with
  | zero => simp [bts]
  | succ k ih => rw [bts, List.length_append, ih, lb_len, Nat.add_mul, Nat.one_mul]
theorem bts_rng (f : Int) (vs : List Int) : ∀ k, ∀ x ∈ bts f vs k, (0 : Int) ≤ x ∧ x ≤ 255 := by
  intro k
  induction k with
  | zero => intro x hx; cases hx
  | succ k ih =>
    intro x hx
    rw [bts] at hx
    rcases List.mem_append.1 hx with hx | hx
    · exact ih x hx
    · exact lb_rng _ _ x hx

/-- One more component put into zeros. -/
theorem bts_put (f : Int) (vs : List Int) (k m : Nat) (x : Int) (hx : vs.getD k 0 = x) : putL (bts f vs k ++ List.replicate ((m + 1) * csz f) 0) (k * csz f) (ecd f x) (csz f) = bts f vs (k + 1) ++ List.replicate (m * csz f) 0 := by
  have h := putL_mid (a := bts f vs k) (z := List.replicate (csz f) 0) (b := List.replicate (m * csz f) 0) (v := ecd f x) (m := csz f) (by simp)
  rw [bts_len] at h
  rw [Nat.add_mul, Nat.one_mul, Nat.add_comm (m * csz f), ← List.replicate_append_replicate, h, bts, hx, List.append_assoc]

theorem dcd_ecd {f x : Int} (hf : 1 ≤ f ∧ f ≤ 4) (h0 : -536870911 ≤ x) (h1 : x ≤ 536870911) : dcd f (litv (lb (csz f) (ecd f x))) = x := by
  have e4 : csz f = 4 := csz_none (by omega)
  have e5 : ecd f x = x := by unfold ecd; rw [if_neg (by omega), if_neg (by omega), if_neg (by omega), sat_id x h0 h1]
  rw [e4, e5, litv_lb4]
  unfold dcd
  rw [if_neg (by omega), if_neg (by omega), if_neg (by omega), sg_back (by omega) (by omega), sat_id x h0 h1]

theorem bts_at (f : Int) (vs : List Int) (k : Nat) : ∀ n, k < n → ∃ r, bts f vs n = bts f vs k ++ (lb (csz f) (ecd f (vs.getD k 0)) ++ r) := by
  intro n hn
  induction n with
  | zero => omega
  | succ n ih =>
    rcases Nat.lt_or_ge k n with h | h
    · obtain ⟨r, hr⟩ := ih h
      exact ⟨r ++ lb (csz f) (ecd f (vs.getD n 0)), by rw [bts, hr]; simp only [List.append_assoc]⟩
    · obtain rfl : k = n := by omega
      exact ⟨[], by rw [bts, List.append_nil]⟩

/-- What was appended in a fixed format is loaded again. -/
theorem lat_bts {f : Int} (hf : 1 ≤ f ∧ f ≤ 4) (l vs : List Int) (n : Nat) (hv : ∀ x ∈ vs, -536870911 ≤ x ∧ x ≤ 536870911) (hn : n = vs.length) : ∀ k, k ≤ n → lat f (l ++ bts f vs n) l.length k = vs.take k := by
  intro k
  induction k with
  | zero => intro _; simp [lat]
  | succ k ih =>
    intro hk
    obtain ⟨r, hr⟩ := bts_at f vs k n (by omega)
    have hkl : k < vs.length := by omega
    have hg : vs.getD k 0 = vs[k] := by rw [List.getD, List.getElem?_eq_getElem hkl]; rfl
    have hx := hv _ (List.getElem_mem hkl)
    rw [lat, ih (by omega), hr, ← List.append_assoc]
    have hp := part_mid (a := l ++ bts f vs k) (z := lb (csz f) (ecd f (vs.getD k 0))) (b := r) (lb_len _ _)
    rw [List.length_append, bts_len] at hp
    rw [hp, hg, dcd_ecd hf hx.1 hx.2, List.take_succ_eq_append_getElem hkl]

end Go.Proofs.Ytfakmeimideoaaa
