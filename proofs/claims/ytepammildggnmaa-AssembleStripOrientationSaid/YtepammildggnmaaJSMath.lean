/- Strips of ascending indices: the numbers and lists. No program is named here. -/
import Derived.Test.YtepammildggnmaaJEMath
namespace Go.Proofs.Ytepammildggnmaa

/-- Triangle i of the strip f, f + 1, .. -/
def stt (f : Int) (i : Nat) : Tri := if i % 2 = 0 then ⟨f + i, f + i + 1, f + i + 2⟩ else ⟨f + i, f + i + 2, f + i + 1⟩

/-- Its first m triangles. -/
def sts (f : Int) : Nat → List Tri
  | 0 => []
  | m + 1 => sts f m ++ [stt f m]

theorem sts_len (f : Int) : ∀ m, (sts f m).length = m
  | 0 => rfl
  | m + 1 => by rw [sts, List.length_append, sts_len]; rfl

theorem stt_mem (f : Int) (i : Nat) (y : Ed) : y ∈ eof (stt f i) ↔ y.x < y.y ∧ (y.x = f + i ∨ y.x = f + i + 1) ∧ (y.y = f + i + 1 ∨ y.y = f + i + 2) := by
  rw [eof_mem]
  unfold hasE stt
  split <;> simp only <;> omega

/-- How many of m have the edge. -/
theorem strip_uses (f : Int) (y : Ed) : ∀ m : Nat, usesE (sts f m) y = (if y.y = y.x + 1 ∨ y.y = y.x + 2 then (if f ≤ y.x ∧ y.x < f + m then 1 else 0) else 0) + (if y.y = y.x + 1 then (if f + 1 ≤ y.x ∧ y.x < f + 1 + m then 1 else 0) else 0)
  | 0 => by
    rw [sts]
    unfold usesE
    rw [List.countP_nil, if_neg (c := f ≤ y.x ∧ y.x < f + (0 : Nat)) (by omega), if_neg (c := f + 1 ≤ y.x ∧ y.x < f + 1 + (0 : Nat)) (by omega)]
    (repeat' split) <;> rfl
  | m + 1 => by
    have ih := strip_uses f y m
    have e : usesE (sts f (m + 1)) y = usesE (sts f m) y + if y ∈ eof (stt f m) then 1 else 0 := by
      rw [sts]
      unfold usesE
      rw [List.countP_append, List.countP_singleton]
      simp
    rw [e, ih]
    have h := stt_mem f m y
    by_cases q : y ∈ eof (stt f m)
    · rw [if_pos q]
      have k := h.1 q
      (repeat' split) <;> omega
    · rw [if_neg q]
      have k : ¬ (y.x < y.y ∧ (y.x = f + m ∨ y.x = f + m + 1) ∧ (y.y = f + m + 1 ∨ y.y = f + m + 2)) := fun r => q (h.2 r)
      (repeat' split) <;> omega

/-- The inner edges. -/
def ine (f : Int) : Nat → List Ed
  | 0 => []
  | m + 1 => ine f m ++ [⟨f + m + 1, f + m + 2⟩]

theorem ine_len (f : Int) : ∀ m, (ine f m).length = m
  | 0 => rfl
  | m + 1 => by rw [ine, List.length_append, ine_len]; rfl

theorem ine_mem (f : Int) (y : Ed) : ∀ m : Nat, y ∈ ine f m ↔ y.y = y.x + 1 ∧ f + 1 ≤ y.x ∧ y.x < f + 1 + m
  | 0 => by
    rw [ine]
    constructor
    · intro h; simp at h
    · intro h; omega
  | m + 1 => by
    obtain ⟨yx, yy⟩ := y
    rw [ine, List.mem_append, ine_mem f _ m, List.mem_singleton, Ed.mk.injEq]
    simp only
    omega

theorem ine_asc (f : Int) : ∀ m, asc (ine f m)
  | 0 => List.Pairwise.nil
  | m + 1 => by
    rw [ine]
    refine List.pairwise_append.2 ⟨ine_asc f m, List.pairwise_singleton _ _, fun a ha b hb => ?_⟩
    rw [List.mem_singleton] at hb
    subst hb
    have h := (ine_mem f a m).1 ha
    unfold elt
    simp only
    omega

/-- A strip of m + 1 triangles has m inner edges. -/
theorem strip_edges (f : Int) (m : Nat) : (redg (sts f (m + 1)) (sts f (m + 1))).length = m := by
  have h : isEdges (sts f (m + 1)) (ine f m) := ⟨ine_asc f m, fun y => by
    rw [ine_mem, strip_uses]
    constructor
    · intro h
      rw [if_pos (.inl h.1), if_pos (by omega), if_pos h.1, if_pos (by omega)]
    · (repeat' split) <;> intro h <;> omega⟩
  rw [isEdges_ext (redg_edges _) h, ine_len]

/-- The indices. -/
def sti (f : Int) : Nat → List Int
  | 0 => []
  | m + 1 => sti f m ++ [f + m]

theorem sti_len (f : Int) : ∀ m, (sti f m).length = m
  | 0 => rfl
  | m + 1 => by rw [sti, List.length_append, sti_len]; rfl

theorem sti_get (f : Int) : ∀ (m j : Nat), j < m → (sti f m)[j]? = some (f + j)
  | 0, j, h => by omega
  | m + 1, j, h => by
    rw [sti]
    by_cases q : j < m
    · rw [List.getElem?_append_left (by rw [sti_len]; exact q)]
      exact sti_get f m j q
    · obtain rfl : j = m := by omega
      rw [List.getElem?_append_right (by rw [sti_len]; exact Nat.le_refl _), sti_len, Nat.sub_self]
      rfl

theorem sti_rst (f : Int) (hf : 0 ≤ f) : ∀ m, rst (sti f m) = ([], sti f m)
  | 0 => rfl
  | m + 1 => by
    rw [sti]
    unfold rst
    rw [List.foldl_append]
    have h := sti_rst f hf m
    unfold rst at h
    rw [h]
    simp only [List.foldl_cons, List.foldl_nil]
    unfold rstep
    rw [if_pos (by omega)]

/-- The strip's triangles. -/
theorem sti_trk (f : Int) (m : Nat) : ∀ k, k + 2 ≤ m → trk 2 (sti f m) k = sts f k
  | 0, _ => rfl
  | k + 1, h => by
    rw [trk, sts, sti_trk f m k (by omega)]
    congr 2
    have g : ∀ j, j < m → rg' (sti f m) j = f + j := fun j hj => by
      unfold rg'
      rw [List.getD_eq_getElem?_getD, sti_get f m j hj]
      rfl
    unfold trv stt cor
    rw [if_neg (by decide), if_neg (by decide)]
    split
    · show Tri.mk (rg' (sti f m) k) (rg' (sti f m) (k + 1)) (rg' (sti f m) (k + 2)) = _
      rw [g _ (by omega), g _ (by omega), g _ (by omega)]
      rw [Tri.mk.injEq]
      exact ⟨rfl, by omega, by omega⟩
    · show Tri.mk (rg' (sti f m) k) (rg' (sti f m) (k + 2)) (rg' (sti f m) (k + 1)) = _
      rw [g _ (by omega), g _ (by omega), g _ (by omega)]
      rw [Tri.mk.injEq]
      exact ⟨rfl, by omega, by omega⟩

/-- Triangles of the strip. -/
theorem sti_tra (f : Int) (hf : 0 ≤ f) (m : Nat) : tra 2 (rns (sti f m)) = sts f (m - 2) := by
  have h := sti_rst f hf m
  unfold rns
  rw [h]
  unfold rfin
  simp only
  rcases Nat.eq_zero_or_pos m with rfl | h0
  · rw [if_pos (by rfl)]
    rfl
  · rw [if_neg (fun e => by have := congrArg List.length e; rw [sti_len] at this; simp at this; omega), List.nil_append]
    have hq : cnq 2 (sti f m) = m - 2 := by
      unfold cnq cnt
      rw [sti_len, if_neg (by intro q; rcases q with q | q; omega; exact q (.inr (.inl rfl))), if_neg (by decide)]
      split <;> omega
    have e : tra 2 [sti f m] = trk 2 (sti f m) (cnq 2 (sti f m)) := by
      simp [tra]
    rw [e, hq]
    rcases (show m < 2 ∨ 2 ≤ m by omega) with h2 | h2
    · rw [show m - 2 = 0 by omega]; rfl
    · exact sti_trk f m _ (by omega)

end Go.Proofs.Ytepammildggnmaa
