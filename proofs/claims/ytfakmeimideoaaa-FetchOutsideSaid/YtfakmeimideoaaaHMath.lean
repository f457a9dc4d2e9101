/- Index and vertex fetch: the numbers and lists. No program is named here. -/
import Derived.Test.YtfakmeimideoaaaBMath
import Derived.Test.YtfakmeimideoaaaBytes
import Derived.Lib.Hide
namespace Go.Proofs.Ytfakmeimideoaaa
open Go.RowKit Go.Sort

/-- An element of an index buffer whose elements have k bytes. -/
def idk (l : List Int) (k : Nat) (i : Int) : Int :=
  if 0 ≤ i ∧ i < ((l.length / k : Nat) : Int) then (if litv (part l (i.toNat * k) k) = 256 ^ k - 1 then -1 else litv (part l (i.toNat * k) k)) else 0

/-- Index. -/
def idx (l : List Int) (t i : Int) : Int :=
  if t = 1 then (if i < 0 then 0 else i) else if t = 2 then idk l 1 i else if t = 3 then idk l 2 i else if t = 4 then idk l 4 i else 0

/-- IndexSize. -/
def isz (t : Int) : Int := if t = 1 then 0 else if t = 2 then 1 else if t = 3 then 2 else if t = 4 then 4 else -1

theorem it_cases (t : Int) : t = 1 ∨ t = 2 ∨ t = 3 ∨ t = 4 ∨ (t ≠ 1 ∧ t ≠ 2 ∧ t ≠ 3 ∧ t ≠ 4) := by omega

theorem idk_out {l : List Int} {k : Nat} {i : Int} (h : ¬ (0 ≤ i ∧ i < ((l.length / k : Nat) : Int))) : idk l k i = 0 := if_neg h

theorem idx_neg {l : List Int} {t i : Int} (h : i < 0) : idx l t i = 0 := by
  unfold idx
  rw [if_pos h]
  repeat' split
  all_goals first | rfl | exact idk_out (by omega)

theorem idx_none {l : List Int} {t i : Int} (h : t ≠ 1 ∧ t ≠ 2 ∧ t ≠ 3 ∧ t ≠ 4) : idx l t i = 0 := by
  unfold idx; rw [if_neg h.1, if_neg h.2.1, if_neg h.2.2.1, if_neg h.2.2.2]

theorem idx_no (l : List Int) {i : Int} (h : 0 ≤ i) : idx l 1 i = i := by unfold idx; rw [if_pos rfl, if_neg (by omega)]
theorem idx_2 (l : List Int) (i : Int) : idx l 2 i = idk l 1 i := by unfold idx; rw [if_neg (by decide), if_pos rfl]
theorem idx_3 (l : List Int) (i : Int) : idx l 3 i = idk l 2 i := by unfold idx; rw [if_neg (by decide), if_neg (by decide), if_pos rfl]
theorem idx_4 (l : List Int) (i : Int) : idx l 4 i = idk l 4 i := by unfold idx; rw [if_neg (by decide), if_neg (by decide), if_neg (by decide), if_pos rfl]

/-- Behind the end of an index buffer the index is 0. -/
theorem idx_end {l : List Int} {t i : Int} (h : 0 < isz t) (hi : (l.length : Int) / isz t ≤ i) : idx l t i = 0 := by
  rcases it_cases t with rfl | rfl | rfl | rfl | h'
  · exact absurd h (by decide)
  · rw [idx_2]; exact idk_out (by have : isz 2 = 1 := rfl; rw [this] at hi; omega)
  · rw [idx_3]; exact idk_out (by have : isz 3 = 2 := rfl; rw [this] at hi; omega)
  · rw [idx_4]; exact idk_out (by have : isz 4 = 4 := rfl; rw [this] at hi; omega)
  · exact idx_none h'

/-- Indices. -/
def ixs (l : List Int) (t : Int) (f : Int) : Nat → List Int
  | 0 => []
  | k + 1 => ixs l t f k ++ [idx l t (f + k)]
theorem ixs_len (l : List Int) (t f : Int) : ∀ k, (ixs l t f k).length = k
  | 0 => rfl
  | k + 1 => by rw [ixs, List.length_append, ixs_len]; rfl

theorem litv_rng4 {l : List Int} {p m : Nat} (h : ∀ x ∈ l, (0 : Int) ≤ x ∧ x ≤ 255) (hp : p + m ≤ l.length) (hm : m ≤ 4) (m1 : 1 ≤ m) : 0 ≤ litv (part l p m) ∧ litv (part l p m) ≤ 4294967295 := by
  have h2 : ∀ x ∈ part l p m, (0 : Int) ≤ x ∧ x ≤ 255 := fun x hx => h x (List.mem_of_mem_drop (List.mem_of_mem_take hx))
  have h1 := litv_rng _ h2
  rw [part_len hp] at h1
  rcases (show m = 1 ∨ m = 2 ∨ m = 3 ∨ m = 4 by omega) with rfl | rfl | rfl | rfl <;> simp at h1 <;> omega

/-- What Index returns is an int. -/
theorem idx_rng {l : List Int} (t : Int) {i : Int} (h : ∀ x ∈ l, (0 : Int) ≤ x ∧ x ≤ 255) (hi : -9223372036854775808 ≤ i ∧ i ≤ 9223372036854775807) : -9223372036854775808 ≤ idx l t i ∧ idx l t i ≤ 9223372036854775807 := by
  have hk : ∀ k, 1 ≤ k → k ≤ 4 → -9223372036854775808 ≤ idk l k i ∧ idk l k i ≤ 9223372036854775807 := fun k k1 k4 => by
    unfold idk
    split
    · rename_i g
      have hq : i.toNat < l.length / k := by omega
      have hp : i.toNat * k + k ≤ l.length := by
        have := (Nat.le_div_iff_mul_le (by omega : 0 < k)).1 hq
        rw [Nat.succ_mul] at this
        exact this
      have := litv_rng4 h hp k4 k1
      split <;> omega
    · omega
  rcases it_cases t with rfl | rfl | rfl | rfl | h'
  · by_cases g : i < 0
    · rw [idx_neg g]; omega
    · rw [idx_no l (by omega)]; exact hi
  · rw [idx_2]; exact hk 1 (by omega) (by omega)
  · rw [idx_3]; exact hk 2 (by omega) (by omega)
  · rw [idx_4]; exact hk 4 (by omega) (by omega)
  · rw [idx_none h']; omega

/-! ### attributes -/

/-- An attribute. -/
structure At where
  b : Int
  o : Int
  s : Int
  f : Int
instance : Inhabited At := ⟨⟨0, 0, 0, 0⟩⟩
def atv (a : At) : List Value := [.int .i64 a.b, .int .i64 a.o, .int .i64 a.s, .int .i64 a.f]

/-- Components. -/
def csum : List At → Nat
  | [] => 0
  | a :: r => cps a.f + csum r
theorem csum_append (l r : List At) : csum (l ++ r) = csum l + csum r := by
  induction l with
  | nil => simp [csum]
  | cons a l ih => simp [csum, ih]; omega
theorem csum_snoc {l : List At} {k : Nat} {a : At} (h : l[k]? = some a) : csum (l.take (k + 1)) = csum (l.take k) + cps a.f := by
  obtain ⟨hk, rfl⟩ := List.getElem?_eq_some_iff.1 h
  rw [List.take_succ_eq_append_getElem hk, csum_append]
  simp [csum]
theorem csum_le (l : List At) : csum l ≤ 4 * l.length := by
  induction l with
  | nil => simp [csum]
  | cons a l ih => have := cps_le a.f; simp [csum]; omega
theorem csum_take (l : List At) (k : Nat) : csum (l.take k) ≤ csum l := by
  conv => rhs; rw [← List.take_append_drop k l, csum_append]
  omega

def attrA (a : At) : Prop := attr a.b a.o a.s a.f

/-- Valid. -/
def vldA (l : List At) : Prop := l.length ≤ 8 ∧ csum l ≤ 32 ∧ ∀ a ∈ l, attrA a

/-- A buffer as it lies in memory. -/
structure Bf where
  A : Option Addr
  n : Nat
  c : Nat
  l : List Int
instance : Inhabited Bf := ⟨⟨none, 0, 0, []⟩⟩
def bfv (r : Bf) : List Value := [.slice r.A r.n r.c]

/-- The bytes of an attribute's buffer. -/
def bufl (bs : List Bf) (b : Int) : List Int := (bs[b.toNat]?.map (·.l)).getD []

/-- Vertex of valid attributes. -/
def vtx (bs : List Bf) (v : Int) : List At → List Int
  | [] => []
  | a :: r => ldv (bufl bs a.b) a.b a.o a.s a.f v ++ vtx bs v r
theorem vtx_append (bs : List Bf) (v : Int) (l r : List At) : vtx bs v (l ++ r) = vtx bs v l ++ vtx bs v r := by
  induction l with
  | nil => rfl
  | cons a l ih => simp [vtx, ih]
theorem vtx_snoc {bs : List Bf} {v : Int} {l : List At} {k : Nat} {a : At} (h : l[k]? = some a) : vtx bs v (l.take (k + 1)) = vtx bs v (l.take k) ++ ldv (bufl bs a.b) a.b a.o a.s a.f v := by
  obtain ⟨hk, rfl⟩ := List.getElem?_eq_some_iff.1 h
  rw [List.take_succ_eq_append_getElem hk, vtx_append]
  simp [vtx]

/-- The list of a valid attribute's components. -/
theorem ldv_len_eq (l : List Int) {b o s f : Int} (v : Int) (h : attr b o s f) : (ldv l b o s f v).length = cps f := by
  unfold ldv; rw [if_pos h]; split
  · exact lat_len _ _ _ _
  · simp
theorem ldv_nil {b o s f : Int} (v : Int) (h : attr b o s f) : ldv [] b o s f v = List.replicate (cps f) 0 := by
  unfold ldv
  rw [if_pos h, if_neg]
  intro g
  have := sizv_le f
  obtain ⟨h1, h2, h3, h4⟩ := h
  have hp : 0 < sizv f := Nat.mul_pos h4 (csz_rng f).1
  have hm : 0 ≤ v * s := Int.mul_nonneg g.1 h3.1
  have := g.2.2
  simp at this
  omega
theorem vtx_nil (v : Int) : ∀ {l : List At}, (∀ a ∈ l, attrA a) → vtx [] v l = List.replicate (csum l) 0
  | [], _ => rfl
  | a :: r, h => by
    rw [vtx, csum, show bufl [] a.b = [] from by simp [bufl], ldv_nil v (h a (by simp)), vtx_nil v (fun x hx => h x (by simp [hx])), List.replicate_append_replicate]
theorem vtx_len (bs : List Bf) (v : Int) : ∀ {l : List At}, (∀ a ∈ l, attrA a) → (vtx bs v l).length = csum l
  | [], _ => rfl
  | a :: r, h => by rw [vtx, csum, List.length_append, ldv_len_eq _ v (h a (by simp)), vtx_len bs v (fun x hx => h x (by simp [hx]))]

/-! ### the different indices -/

/-- The place of a number in a list, or -1. -/
def fnd : List Int → Int → Int
  | [], _ => -1
  | y :: r, x => if y = x then 0 else if fnd r x < 0 then -1 else fnd r x + 1
theorem fnd_rng (l : List Int) (x : Int) : -1 ≤ fnd l x ∧ fnd l x < l.length := by
  induction l with
  | nil => simp [fnd]
  | cons y r ih => simp only [fnd, List.length_cons]; split <;> (try split) <;> omega
theorem fnd_neg {l : List Int} {x : Int} : fnd l x < 0 ↔ x ∉ l := by
  induction l with
  | nil => simp [fnd]
  | cons y r ih =>
    have := fnd_rng r x
    simp only [fnd, List.mem_cons, not_or]
    split
    · rename_i h; subst h; simp
    · rename_i h
      split
      · rename_i g; exact ⟨fun _ => ⟨fun e => h e.symm, ih.1 g⟩, fun _ => by omega⟩
      · rename_i g; exact ⟨fun _ => by omega, fun q => absurd (ih.2 q.2) g⟩
theorem fnd_none {l : List Int} {x : Int} (h : x ∉ l) : fnd l x = -1 := by have := fnd_rng l x; have := fnd_neg.2 h; omega
theorem fnd_get {l : List Int} {x : Int} (h : x ∈ l) : 0 ≤ fnd l x ∧ l[(fnd l x).toNat]? = some x := by
  induction l with
  | nil => cases h
  | cons y r ih =>
    simp only [fnd]
    split
    · rename_i e; subst e; simp
    · rename_i e
      have hr : x ∈ r := (List.mem_cons.1 h).resolve_left fun q => e q.symm
      have h1 := ih hr
      rw [if_neg (by omega), show (fnd r x + 1).toNat = (fnd r x).toNat + 1 by omega]
      exact ⟨by omega, by rw [List.getElem?_cons_succ]; exact h1.2⟩
theorem fnd_append {l r : List Int} {x : Int} (h : x ∈ l) : fnd (l ++ r) x = fnd l x := by
  induction l with
  | nil => cases h
  | cons y l ih =>
    simp only [List.cons_append, fnd]
    split
    · rfl
    · rename_i e
      rw [ih ((List.mem_cons.1 h).resolve_left fun q => e q.symm)]
theorem fnd_last {l : List Int} {x : Int} (h : x ∉ l) : fnd (l ++ [x]) x = l.length := by
  induction l with
  | nil => simp [fnd]
  | cons y l ih =>
    simp only [List.mem_cons, not_or] at h
    simp only [List.cons_append, fnd]
    rw [if_neg (fun e => h.1 e.symm), ih h.2]
    simp
    omega
/-- The first place: what a search from the front finds. -/
theorem fnd_at {l : List Int} {x : Int} {k : Nat} (h : l[k]? = some x) (hb : ∀ j, j < k → l[j]? ≠ some x) : fnd l x = k := by
  induction l generalizing k with
  | nil => cases h
  | cons y r ih =>
    simp only [fnd]
    cases k with
    | zero => simp at h; rw [if_pos h]; rfl
    | succ k =>
      have h0 := hb 0 (by omega)
      simp at h0
      rw [if_neg h0, ih (by simpa using h) (fun j hj => by have := hb (j + 1) (by omega); simpa using this), if_neg (by omega)]
      omega

/-- A step of Unique: the different indices, the positions. -/
def uqs (s : List Int × List Int) (x : Int) : List Int × List Int :=
  if x < 0 then (s.1, s.2 ++ [-1]) else if x ∈ s.1 then (s.1, s.2 ++ [fnd s.1 x]) else (s.1 ++ [x], s.2 ++ [(s.1.length : Int)])
def uq (l : List Int) : List Int × List Int := l.foldl uqs ([], [])
theorem uq_snoc {l : List Int} {k : Nat} {x : Int} (h : l[k]? = some x) : uq (l.take (k + 1)) = uqs (uq (l.take k)) x := by
  obtain ⟨hk, rfl⟩ := List.getElem?_eq_some_iff.1 h
  rw [List.take_succ_eq_append_getElem hk]
  unfold uq
  rw [List.foldl_append]
  rfl
theorem uqs_len2 (s : List Int × List Int) (x : Int) : (uqs s x).2.length = s.2.length + 1 := by
  unfold uqs
  split
  · simp
  · split <;> simp
theorem uqs_len1 (s : List Int × List Int) (x : Int) : (uqs s x).1.length ≤ s.1.length + 1 := by
  unfold uqs
  split
  · simp
  · split <;> simp
theorem uq_len2 (l : List Int) : ∀ k, k ≤ l.length → (uq (l.take k)).2.length = k
  | 0, _ => by simp [uq]
  | k + 1, h => by rw [uq_snoc (List.getElem?_eq_getElem (by omega)), uqs_len2, uq_len2 l k (by omega)]
theorem uq_len1 (l : List Int) : ∀ k, k ≤ l.length → (uq (l.take k)).1.length ≤ k
  | 0, _ => by simp [uq]
  | k + 1, h => by rw [uq_snoc (List.getElem?_eq_getElem (by omega))]; have := uq_len1 l k (by omega); have := uqs_len1 (uq (l.take k)) (l[k]'(by omega)); omega
/-- What is kept over the rounds. -/
structure UOk (l : List Int) (s : List Int × List Int) : Prop where
  nd : s.1.Nodup
  nn : ∀ x ∈ s.1, 0 ≤ x
  len : s.2.length = l.length
  at_ : ∀ (i : Nat) (x : Int), l[i]? = some x → ∃ p, s.2[i]? = some p ∧ ((x < 0 ∧ p = -1) ∨ (0 ≤ x ∧ 0 ≤ p ∧ s.1[p.toNat]? = some x))
theorem UOk.step {l : List Int} {s : List Int × List Int} (h : UOk l s) (x : Int) : UOk (l ++ [x]) (uqs s x) := by
  have hat : ∀ (d : List Int) (q : Int), ((x < 0 ∧ q = -1) ∨ (0 ≤ x ∧ 0 ≤ q ∧ (s.1 ++ d)[q.toNat]? = some x)) → ∀ (i : Nat) (y : Int), (l ++ [x])[i]? = some y → ∃ p, (s.2 ++ [q])[i]? = some p ∧ ((y < 0 ∧ p = -1) ∨ (0 ≤ y ∧ 0 ≤ p ∧ (s.1 ++ d)[p.toNat]? = some y)) := by
    intro d q hq i y hy
    by_cases hi : i < l.length
    · rw [List.getElem?_append_left hi] at hy
      obtain ⟨p, hp, hc⟩ := h.at_ i y hy
      refine ⟨p, by rw [List.getElem?_append_left (by rw [h.len]; exact hi)]; exact hp, ?_⟩
      rcases hc with hc | ⟨h0, h1, h2⟩
      · exact .inl hc
      · exact .inr ⟨h0, h1, by rw [List.getElem?_append_left (List.getElem?_eq_some_iff.1 h2).1]; exact h2⟩
    · have hl : i < (l ++ [x]).length := (List.getElem?_eq_some_iff.1 hy).1
      simp at hl
      obtain rfl : i = l.length := by omega
      simp at hy
      subst hy
      exact ⟨q, by rw [← h.len]; simp, hq⟩
  unfold uqs
  split
  · rename_i hx
    have := hat [] (-1) (.inl ⟨hx, rfl⟩)
    simp only [List.append_nil] at this
    exact ⟨h.nd, h.nn, by simp [h.len], this⟩
  · rename_i hx
    split
    · rename_i hm
      have := hat [] (fnd s.1 x) (.inr ⟨by omega, (fnd_get hm).1, by rw [List.append_nil]; exact (fnd_get hm).2⟩)
      simp only [List.append_nil] at this
      exact ⟨h.nd, h.nn, by simp [h.len], this⟩
    · rename_i hm
      refine ⟨?_, fun y hy => ?_, by simp [h.len], hat [x] s.1.length (.inr ⟨by omega, by omega, by simp⟩)⟩
      · rw [List.nodup_append]
        exact ⟨h.nd, by simp, fun a ha b hb => by simp at hb; subst hb; exact fun e => hm (e ▸ ha)⟩
      · rcases List.mem_append.1 hy with hy | hy
        · exact h.nn y hy
        · simp at hy; omega
theorem uq_ok (l : List Int) : ∀ k, k ≤ l.length → UOk (l.take k) (uq (l.take k))
  | 0, _ => ⟨by simp [uq], by simp [uq], by simp [uq], by simp⟩
  | k + 1, h => by
    have hk : l[k]? = some (l[k]'(by omega)) := List.getElem?_eq_getElem (by omega)
    rw [uq_snoc hk, List.take_succ_eq_append_getElem (by omega)]
    exact (uq_ok l k (by omega)).step _
/-- The reference's step. -/
theorem uqs_ref {s : List Int × List Int} {x : Int} (nn : ∀ y ∈ s.1, 0 ≤ y) :
    uqs s x = (if 0 ≤ x ∧ fnd s.1 x < 0 then s.1 ++ [x] else s.1, s.2 ++ [fnd (if 0 ≤ x ∧ fnd s.1 x < 0 then s.1 ++ [x] else s.1) x]) := by
  unfold uqs
  by_cases hx : x < 0
  · have : x ∉ s.1 := fun hm => by have := nn x hm; omega
    rw [if_pos hx, if_neg (by omega), fnd_none this]
  · rw [if_neg hx]
    by_cases hm : x ∈ s.1
    · rw [if_pos hm, if_neg (fun h => fnd_neg.1 h.2 hm)]
    · rw [if_neg hm, if_pos ⟨by omega, fnd_neg.2 hm⟩, fnd_last hm]

end Go.Proofs.Ytfakmeimideoaaa
