/- Primitive assembly: the numbers and lists. No program is named here. -/
import Derived.Lib.Hide
import Derived.RowKit
namespace Go.Proofs.Ytepammildggnmaa

/-- Valid. -/
def tvalid (t : Int) : Prop := t = 1 ∨ t = 2 ∨ t = 3
instance (t : Int) : Decidable (tvalid t) := by unfold tvalid; exact inferInstance

/-- Count. -/
def cnt (t n : Int) : Int := if n < 0 ∨ ¬ tvalid t then 0 else if t = 1 then n / 3 else if n < 2 then 0 else n - 2

theorem cnt_le (t n : Int) (h : 0 ≤ n) : 0 ≤ cnt t n ∧ cnt t n ≤ n := by
  unfold cnt
  split
  · omega
  · split
    · omega
    · split <;> omega

/-- Element j of a run. -/
def rg' (l : List Int) (j : Nat) : Int := l.getD j 0

/-- A triangle. -/
structure Tri where
  x : Int
  y : Int
  z : Int
deriving DecidableEq
instance : Inhabited Tri := ⟨⟨0, 0, 0⟩⟩

/-- The places of the vertices of triangle i. -/
def cor (t : Int) (i : Nat) : Nat × Nat × Nat :=
  if t = 1 then (3 * i, 3 * i + 1, 3 * i + 2) else if t = 3 then (0, i + 1, i + 2) else if i % 2 = 0 then (i, i + 1, i + 2) else (i, i + 2, i + 1)

/-- Triangle, where it exists. -/
def trv (t : Int) (l : List Int) (i : Nat) : Tri := ⟨rg' l (cor t i).1, rg' l (cor t i).2.1, rg' l (cor t i).2.2⟩

theorem cor_in {t : Int} {n i : Nat} (h : (i : Int) < cnt t n) : (cor t i).1 < n ∧ (cor t i).2.1 < n ∧ (cor t i).2.2 < n := by
  unfold cnt at h
  unfold cor
  split at h
  · omega
  · split at h
    · rename_i h1
      rw [if_pos h1]
      simp only
      omega
    · rename_i h1
      rw [if_neg h1]
      split at h
      · omega
      · split
        · simp only; omega
        · split <;> simp only <;> omega

/-- What Triangle returns. -/
def trf (t : Int) (l : List Int) (i : Int) : Tri := if 0 ≤ i ∧ i < cnt t l.length then trv t l i.toNat else ⟨0, 0, 0⟩
def trb (t : Int) (n : Nat) (i : Int) : Bool := decide (0 ≤ i ∧ i < cnt t n)

/-- A step of Runs: the runs, the run. -/
def rstep (s : List (List Int) × List Int) (x : Int) : List (List Int) × List Int :=
  if 0 ≤ x then (s.1, s.2 ++ [x]) else (if s.2 = [] then s.1 else s.1 ++ [s.2], [])
def rfin (s : List (List Int) × List Int) : List (List Int) := if s.2 = [] then s.1 else s.1 ++ [s.2]
def rst (l : List Int) : List (List Int) × List Int := l.foldl rstep ([], [])
/-- Runs. -/
def rns (l : List Int) : List (List Int) := rfin (rst l)

theorem rst_snoc {l : List Int} {k : Nat} {x : Int} (h : l[k]? = some x) : rst (l.take (k + 1)) = rstep (rst (l.take k)) x := by
  obtain ⟨hk, rfl⟩ := List.getElem?_eq_some_iff.1 h
  rw [List.take_succ_eq_append_getElem hk]
  unfold rst
  rw [List.foldl_append]
  rfl

/-- The bulk of the runs so far. -/
def rbulk (s : List (List Int) × List Int) : Nat := (s.1.map List.length).sum + s.2.length

theorem rst_bulk (l : List Int) : ∀ k, k ≤ l.length → rbulk (rst (l.take k)) ≤ k ∧ 2 * (rst (l.take k)).1.length + (if (rst (l.take k)).2 = [] then 0 else 1) ≤ k + 0 ∨ False ∨ rbulk (rst (l.take k)) ≤ k
  | 0, _ => by simp [rst, rbulk]
  | k + 1, h => by
    right; right
    have hx : l[k]? = some (l[k]'(by omega)) := List.getElem?_eq_getElem (by omega)
    have ih : rbulk (rst (l.take k)) ≤ k := by
      rcases rst_bulk l k (by omega) with h | h | h
      · exact h.1
      · exact h.elim
      · exact h
    rw [rst_snoc hx]
    unfold rstep
    split
    · simp only [rbulk, List.length_append, List.length_singleton] at ih ⊢; omega
    · simp only [rbulk] at ih ⊢
      split
      · simp only [List.length_nil]; omega
      · simp only [List.map_append, List.sum_append, List.map_cons, List.map_nil, List.sum_cons, List.sum_nil, List.length_nil]; omega

theorem rst_len (l : List Int) : ∀ k, k ≤ l.length → (rst (l.take k)).2.length ≤ k := fun k h => by
  rcases rst_bulk l k h with h | h | h
  · have := h.1; unfold rbulk at this; omega
  · exact h.elim
  · unfold rbulk at h; omega

/-- There is a negative number between two runs. -/
theorem rst_runs (l : List Int) : ∀ k, k ≤ l.length → 2 * (rst (l.take k)).1.length + (if (rst (l.take k)).2 = [] then 0 else 1) ≤ k ∧ (∀ r ∈ (rst (l.take k)).1, r ≠ [])
  | 0, _ => by simp [rst]
  | k + 1, h => by
    have hx : l[k]? = some (l[k]'(by omega)) := List.getElem?_eq_getElem (by omega)
    obtain ⟨ih, ih2⟩ := rst_runs l k (by omega)
    rw [rst_snoc hx]
    obtain ⟨⟨rs, r⟩, hs⟩ : ∃ s, rst (l.take k) = s := ⟨_, rfl⟩
    rw [hs] at ih ih2 ⊢
    unfold rstep
    simp only at ih ih2 ⊢
    split
    · refine ⟨?_, ih2⟩
      simp only
      split at ih <;> split <;> omega
    · simp only
      split
      · rename_i e
        rw [if_pos e] at ih
        exact ⟨by simp only [if_true]; omega, ih2⟩
      · rename_i e
        rw [if_neg e] at ih
        refine ⟨by simp only [if_true, List.length_append, List.length_singleton]; omega, fun q hq => ?_⟩
        rcases List.mem_append.1 hq with hq | hq
        · exact ih2 q hq
        · rw [List.mem_singleton] at hq; subst hq; exact e

/-! ### the triangles of runs -/

/-- The first k triangles of a run. -/
def trk (t : Int) (r : List Int) : Nat → List Tri
  | 0 => []
  | k + 1 => trk t r k ++ [trv t r k]
theorem trk_len (t : Int) (r : List Int) : ∀ k, (trk t r k).length = k
  | 0 => rfl
  | k + 1 => by rw [trk, List.length_append, trk_len]; rfl

/-- How many triangles a run has. -/
def cnq (t : Int) (r : List Int) : Nat := (cnt t r.length).toNat
theorem cnq_cast (t : Int) (r : List Int) : ((cnq t r : Nat) : Int) = cnt t r.length := by
  have := (cnt_le t r.length (by omega)).1
  unfold cnq
  omega
theorem cnq_le (t : Int) (r : List Int) : cnq t r ≤ r.length := by
  have := (cnt_le t r.length (by omega)).2
  unfold cnq
  omega

/-- The triangles of the runs. -/
def tra (t : Int) : List (List Int) → List Tri
  | [] => []
  | r :: rs => trk t r (cnq t r) ++ tra t rs
theorem tra_append (t : Int) (a b : List (List Int)) : tra t (a ++ b) = tra t a ++ tra t b := by
  induction a with
  | nil => rfl
  | cons r a ih => simp [tra, ih]
theorem tra_snoc {t : Int} {rs : List (List Int)} {j : Nat} {r : List Int} (h : rs[j]? = some r) : tra t (rs.take (j + 1)) = tra t (rs.take j) ++ trk t r (cnq t r) := by
  obtain ⟨hj, rfl⟩ := List.getElem?_eq_some_iff.1 h
  rw [List.take_succ_eq_append_getElem hj, tra_append]
  simp [tra]

/-- How many numbers the runs have. -/
def tl (rs : List (List Int)) : Nat := (rs.map List.length).sum
theorem tl_append (a b : List (List Int)) : tl (a ++ b) = tl a + tl b := by simp [tl]
theorem tl_take (rs : List (List Int)) (j : Nat) : tl (rs.take j) ≤ tl rs := by
  conv => rhs; rw [← List.take_append_drop j rs, tl_append]
  omega
theorem tl_snoc {rs : List (List Int)} {j : Nat} {r : List Int} (h : rs[j]? = some r) : tl (rs.take (j + 1)) = tl (rs.take j) + r.length := by
  obtain ⟨hj, rfl⟩ := List.getElem?_eq_some_iff.1 h
  rw [List.take_succ_eq_append_getElem hj, tl_append]
  simp [tl]
theorem tra_len (t : Int) : ∀ rs : List (List Int), (tra t rs).length ≤ tl rs
  | [] => by simp [tra, tl]
  | r :: rs => by
    have h1 := tra_len t rs
    have h2 := cnq_le t r
    simp only [tra, List.length_append, trk_len, tl, List.map_cons, List.sum_cons] at h1 ⊢
    omega
theorem rns_tl (l : List Int) : tl (rns l) ≤ l.length := by
  have h := rst_bulk l l.length (Nat.le_refl _)
  have h' : rbulk (rst (l.take l.length)) ≤ l.length := by
    rcases h with h | h | h
    · exact h.1
    · exact h.elim
    · exact h
  rw [List.take_length] at h'
  unfold rbulk at h'
  unfold rns rfin tl
  split
  · omega
  · simp only [List.map_append, List.sum_append, List.map_cons, List.map_nil, List.sum_cons, List.sum_nil]; omega
theorem rns_len (l : List Int) : 2 * (rns l).length ≤ l.length + 1 := by
  have h := (rst_runs l l.length (Nat.le_refl _)).1
  rw [List.take_length] at h
  unfold rns rfin
  split
  · rename_i e
    rw [if_pos e] at h
    omega
  · rename_i e
    rw [if_neg e] at h
    simp only [List.length_append, List.length_singleton]
    omega

end Go.Proofs.Ytepammildggnmaa
