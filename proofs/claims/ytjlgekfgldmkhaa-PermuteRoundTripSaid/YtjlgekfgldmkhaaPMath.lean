/- The generator's numbers; permutations as lists of ints. No function of a program is named here. -/
import Derived.Below
namespace Go.Proofs.Ytjlgekfgldmkhaa
open Go.RowKit

/-! ### the numbers -/
/-- A number with its own higher bits laid over it. -/
def xsh (k z : Nat) : Nat := z ^^^ (z / 2 ^ k)
def nxt (s : Nat) : Nat := (s + 11400714819323198485) % 18446744073709551616
def mix1 (z : Nat) : Nat := xsh 30 z * 13787848793156543929 % 18446744073709551616
def mix2 (z : Nat) : Nat := xsh 27 z * 10723151780598845931 % 18446744073709551616
/-- The number of a successor. -/
def mixN (s : Nat) : Nat := xsh 31 (mix2 (mix1 s))

theorem nxt_def (s : Nat) : nxt s = (s + 11400714819323198485) % 18446744073709551616 := by rw [nxt]
theorem nxt_lt (s : Nat) : nxt s < 18446744073709551616 := Nat.mod_lt _ (by omega)

theorem xsh_lt {k z : Nat} (h : z < 18446744073709551616) : xsh k z < 18446744073709551616 := by
  have e : (18446744073709551616 : Nat) = 2 ^ 64 := by decide
  rw [e] at h ⊢
  exact Nat.xor_lt_two_pow h (Nat.lt_of_le_of_lt (Nat.div_le_self _ _) h)

theorem mix1_lt (z : Nat) : mix1 z < 18446744073709551616 := Nat.mod_lt _ (by omega)
theorem mix2_lt (z : Nat) : mix2 z < 18446744073709551616 := Nat.mod_lt _ (by omega)
theorem mixN_lt (s : Nat) : mixN s < 18446744073709551616 := xsh_lt (mix2_lt _)

theorem xsh_inj {k y z : Nat} (hk : 1 ≤ k) (hy : y < 18446744073709551616) (hz : z < 18446744073709551616) (h : xsh k y = xsh k z) : y = z := by
  have e : (18446744073709551616 : Nat) = 2 ^ 64 := by decide
  rw [e] at hy hz
  have key : ∀ n i : Nat, 64 ≤ i + n → y.testBit i = z.testBit i := by
    intro n
    induction n with
    | zero =>
      intro i hi
      have h1 : y < 2 ^ i := Nat.lt_of_lt_of_le hy (Nat.pow_le_pow_right (by omega) (by omega))
      have h2 : z < 2 ^ i := Nat.lt_of_lt_of_le hz (Nat.pow_le_pow_right (by omega) (by omega))
      rw [Nat.testBit_lt_two_pow h1, Nat.testBit_lt_two_pow h2]
    | succ n ih =>
      intro i hi
      have h1 := ih (i + k) (by omega)
      have h2 := congrArg (fun a => Nat.testBit a i) h
      simp only [xsh, Nat.testBit_xor, Nat.testBit_div_two_pow] at h2
      rw [h1] at h2
      revert h2
      cases y.testBit i <;> cases z.testBit i <;> cases z.testBit (i + k) <;> simp
  exact Nat.eq_of_testBit_eq fun i => key 64 i (by omega)

theorem mul_inj {a b y z : Nat} (hab : a * b % 18446744073709551616 = 1) (hy : y < 18446744073709551616) (hz : z < 18446744073709551616) (h : y * a % 18446744073709551616 = z * a % 18446744073709551616) : y = z := by
  have back : ∀ x : Nat, x < 18446744073709551616 → (x * a % 18446744073709551616) * b % 18446744073709551616 = x := by
    intro x hx
    rw [Nat.mod_mul_mod, Nat.mul_assoc, Nat.mul_mod, hab, Nat.mul_one, Nat.mod_mod, Nat.mod_eq_of_lt hx]
  rw [← back y hy, ← back z hz, h]

/-- Different successors give different numbers. -/
theorem mixN_inj {y z : Nat} (hy : y < 18446744073709551616) (hz : z < 18446744073709551616) (h : mixN y = mixN z) : y = z := by
  have h1 := xsh_inj (by omega) (mix2_lt _) (mix2_lt _) h
  have h2 := mul_inj (b := 3573116690164977347) (by decide) (xsh_lt (mix1_lt _)) (xsh_lt (mix1_lt _)) h1
  have h3 := xsh_inj (by omega) (mix1_lt _) (mix1_lt _) h2
  have h4 := mul_inj (b := 10871156337175269513) (by decide) (xsh_lt hy) (xsh_lt hz) h3
  exact xsh_inj (by omega) hy hz h4

theorem nxt_inj {y z : Nat} (hy : y < 18446744073709551616) (hz : z < 18446744073709551616) (h : nxt y = nxt z) : y = z := by
  unfold nxt at h; omega

/-! ### lists of numbers -/
/-- 0 to n - 1. -/
def iota (n : Nat) : List Int := (List.range n).map fun i : Nat => (i : Int)

theorem iota_len (n : Nat) : (iota n).length = n := by simp [iota]
theorem iota_at {n i : Nat} (h : i < n) : (iota n)[i]? = some (i : Int) := by simp [iota, h]
theorem iota_succ (n : Nat) : iota (n + 1) = iota n ++ [(n : Int)] := by simp [iota, List.range_succ]
theorem iota_mem {n : Nat} {x : Int} : x ∈ iota n ↔ 0 ≤ x ∧ x < n := by
  simp only [iota, List.mem_map, List.mem_range]
  constructor
  · rintro ⟨i, hi, rfl⟩; omega
  · intro h; exact ⟨x.toNat, by omega, by omega⟩
theorem iota_nodup (n : Nat) : (iota n).Nodup := by
  unfold iota
  rw [List.Nodup, List.pairwise_map]
  exact (List.nodup_range (n := n)).imp (fun h e => h (by omega))

/-- A list without duplicates, all of it in another that is no longer, is that one in another order. -/
theorem perm_of_sub : ∀ {r l : List Int}, r.Nodup → (∀ x ∈ r, x ∈ l) → l.length ≤ r.length → l.Perm r
  | [], l, _, _, h => by
    obtain rfl : l = [] := List.eq_nil_of_length_eq_zero (by simpa using h)
    exact List.Perm.refl _
  | x :: r, l, hn, hs, hl => by
    rw [List.nodup_cons] at hn
    have hx := hs x (List.mem_cons_self ..)
    have h1 := List.perm_cons_erase hx
    have h2 : (l.erase x).length = l.length - 1 := List.length_erase_of_mem hx
    have h3 : (l.erase x).Perm r := perm_of_sub hn.2 (fun y hy => by
      have hne : y ≠ x := fun e => hn.1 (e ▸ hy)
      exact (List.mem_erase_of_ne hne).2 (hs y (List.mem_cons_of_mem _ hy))) (by simp only [List.length_cons] at hl; omega)
    exact h1.trans (h3.cons x)

/-- A permutation of 0 to its length less one. -/
def IsP (l : List Int) : Prop := l.Perm (iota l.length)

theorem isP_of_nodup {l : List Int} (h1 : l.Nodup) (h2 : ∀ x ∈ l, 0 ≤ x ∧ x < l.length) : IsP l :=
  (perm_of_sub h1 (fun x hx => iota_mem.2 (h2 x hx)) (by rw [iota_len]; exact Nat.le_refl _)).symm

theorem isP_of_all {l : List Int} (h : ∀ x : Nat, x < l.length → (x : Int) ∈ l) : IsP l :=
  perm_of_sub (iota_nodup _) (fun x hx => by
    have := iota_mem.1 hx
    have h2 := h x.toNat (by omega)
    rwa [show ((x.toNat : Nat) : Int) = x by omega] at h2) (by rw [iota_len]; exact Nat.le_refl _)

theorem IsP.nodup {l : List Int} (h : IsP l) : l.Nodup := (List.Perm.nodup_iff h).2 (iota_nodup _)
theorem IsP.rng {l : List Int} (h : IsP l) {x : Int} (hx : x ∈ l) : 0 ≤ x ∧ x < l.length := iota_mem.1 ((List.Perm.mem_iff h).1 hx)
theorem IsP.all {l : List Int} (h : IsP l) {x : Nat} (hx : x < l.length) : (x : Int) ∈ l := (List.Perm.mem_iff h).2 (iota_mem.2 (by omega))
theorem isP_iota (n : Nat) : IsP (iota n) := by unfold IsP; rw [iota_len]
theorem IsP.perm {l m : List Int} (h : IsP l) (p : m.Perm l) : IsP m := by
  unfold IsP at h ⊢
  rw [p.length_eq]
  exact p.trans h

theorem IsP.count {l : List Int} (h : IsP l) {x : Nat} (hx : x < l.length) : l.count (x : Int) = 1 :=
  List.Nodup.count h.nodup |>.trans (if_pos (h.all hx))

/-! ### exchanges -/
/-- Elements i and k exchanged. -/
def swp (l : List Int) (i k : Nat) : List Int := (l.set i (l.getD k 0)).set k (l.getD i 0)

theorem swp_len (l : List Int) (i k : Nat) : (swp l i k).length = l.length := by simp [swp]
theorem swp_perm {l : List Int} {i k : Nat} (hi : i < l.length) (hk : k < l.length) : (swp l i k).Perm l := by
  have h := List.set_set_perm hi hk
  unfold swp
  simpa [List.getD, hi, hk] using h

/-- The exchanges from place i down to 1: the list, the state; m is a state's number, g its successor. -/
def pm (g m : Nat → Nat) : Nat → List Int → Nat → List Int × Nat
  | 0, l, s => (l, s)
  | i + 1, l, s => pm g m i (swp l (i + 1) (m s % (i + 2))) (g s)

section
variable {g m : Nat → Nat}

theorem pm_zero (l : List Int) (s : Nat) : pm g m 0 l s = (l, s) := rfl
theorem pm_succ (i : Nat) (l : List Int) (s : Nat) : pm g m (i + 1) l s = pm g m i (swp l (i + 1) (m s % (i + 2))) (g s) := rfl
theorem pm_len : ∀ (i : Nat) (l : List Int) (s : Nat), (pm g m i l s).1.length = l.length
  | 0, _, _ => rfl
  | i + 1, l, s => by rw [pm_succ, pm_len i, swp_len]
theorem pm_perm : ∀ (i : Nat) (l : List Int) (s : Nat), i < l.length → (pm g m i l s).1.Perm l
  | 0, l, s, _ => List.Perm.refl _
  | i + 1, l, s, h => by
    rw [pm_succ]
    have hk : m s % (i + 2) < l.length := Nat.lt_of_lt_of_le (Nat.mod_lt _ (by omega)) h
    exact (pm_perm i _ _ (by rw [swp_len]; omega)).trans (swp_perm h hk)

/-- g, n times. -/
def itr (g : Nat → Nat) : Nat → Nat → Nat
  | 0, s => s
  | n + 1, s => itr g n (g s)
theorem itr_zero (s : Nat) : itr g 0 s = s := rfl
theorem itr_succ (n s : Nat) : itr g (n + 1) s = itr g n (g s) := rfl
theorem pm_itr : ∀ (i : Nat) (l : List Int) (s : Nat), (pm g m i l s).2 = itr g i s
  | 0, _, _ => rfl
  | i + 1, l, s => by rw [pm_succ, pm_itr i]; rfl
end

theorem mod_step (W G s n : Nat) : ((s + G) % W + n * G) % W = (s + (n + 1) * G) % W := by
  rw [Nat.mod_add_mod, Nat.succ_mul, Nat.add_assoc, Nat.add_comm G]

theorem itr_nxt : ∀ (n s : Nat), s < 18446744073709551616 → itr nxt n s = (s + n * 11400714819323198485) % 18446744073709551616 := by
  intro n
  induction n with
  | zero => intro s h; rw [Nat.zero_mul, Nat.add_zero, Nat.mod_eq_of_lt h, itr_zero]
  | succ n ih =>
    intro s h
    rw [← mod_step, ← nxt_def, itr_succ]
    exact ih _ (nxt_lt s)

/-- The shuffle of n numbers. -/
def shuf (n s : Nat) : List Int × Nat := pm nxt (fun s => mixN (nxt s)) (n - 1) (iota n) s
theorem shuf_isP {n s : Nat} (h : 1 ≤ n) : IsP (shuf n s).1 := (isP_iota n).perm (pm_perm _ _ _ (by rw [iota_len]; omega))
theorem shuf_len (n s : Nat) : (shuf n s).1.length = n := by unfold shuf; rw [pm_len, iota_len]

/-! ### the inverse -/
/-- Each number's index. -/
def inv (l : List Int) : List Int := (iota l.length).map fun x => (l.idxOf x : Int)
theorem inv_len (l : List Int) : (inv l).length = l.length := by simp [inv, iota_len]
theorem inv_at {l : List Int} {x : Nat} (h : x < l.length) : (inv l)[x]? = some (l.idxOf (x : Int) : Int) := by
  unfold inv
  rw [List.getElem?_map, iota_at h]
  rfl

theorem IsP.at_ {l : List Int} (h : IsP l) {i : Nat} (hi : i < l.length) : ∃ x : Nat, l[i]? = some (x : Int) ∧ x < l.length := by
  have hx := h.rng (List.getElem_mem hi)
  exact ⟨l[i].toNat, by rw [List.getElem?_eq_getElem hi]; congr 1; omega, by omega⟩

theorem idx_at {l : List Int} (h : l.Nodup) {i : Nat} {x : Int} (hx : l[i]? = some x) : l.idxOf x = i := by
  obtain ⟨hi, rfl⟩ := List.getElem?_eq_some_iff.1 hx
  exact List.Nodup.idxOf_getElem h i hi

/-- The inverse at an element is its index. -/
theorem inv_elem {l : List Int} (h : IsP l) {i x : Nat} (hx : l[i]? = some (x : Int)) (hl : x < l.length) : (inv l)[x]? = some (i : Int) := by
  rw [inv_at hl, idx_at h.nodup hx]

theorem inv_isP {l : List Int} (h : IsP l) : IsP (inv l) := isP_of_all fun i hi => by
  rw [inv_len] at hi
  obtain ⟨x, hx, hl⟩ := h.at_ hi
  exact List.mem_of_getElem? (inv_elem h hx hl)

theorem inv_inv {l : List Int} (h : IsP l) : inv (inv l) = l := by
  apply List.ext_getElem?
  intro i
  by_cases hi : i < l.length
  · obtain ⟨x, hx, hl⟩ := h.at_ hi
    rw [inv_elem (inv_isP h) (inv_elem h hx hl) (by rw [inv_len]; exact hi), hx]
  · rw [List.getElem?_eq_none (by rw [inv_len, inv_len]; omega), List.getElem?_eq_none (by omega)]

/-! ### elements at indices -/
/-- The elements at some indices, if all exist. -/
def app {α : Type} (l : List α) : List Int → Option (List α)
  | [] => some []
  | i :: r => if 0 ≤ i ∧ i < l.length then match l[i.toNat]?, app l r with
    | some x, some t => some (x :: t)
    | _, _ => none
    else none

end Go.Proofs.Ytjlgekfgldmkhaa
