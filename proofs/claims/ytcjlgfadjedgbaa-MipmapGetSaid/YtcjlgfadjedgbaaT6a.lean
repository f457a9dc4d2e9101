/- The numbers of the program's texel formats: where a component lies, the bytes that are written one component after the other. No function of a program is named here. -/
import Derived.Test.YtcjlgfadjedgbaaT5
namespace Go.Proofs.Ytcjlgfadjedgbaa
open Go.RowKit Go.Sort

/-- Bytes put into a list. -/
theorem putL_eq (l : List Int) (p : Nat) (v : Int) (j : Nat) (h : p + j ≤ l.length) : putL l p v j = l.take p ++ (lb j v ++ l.drop (p + j)) := by
  induction j with
  | zero => simp [putL, lb]
  | succ j ih =>
    have hj : p + j < l.length := by omega
    rw [putL, ih (by omega), lb_snoc, List.drop_eq_getElem_cons hj, ← List.append_assoc, ← List.append_assoc,
      List.set_append_right _ _ (by rw [List.length_append, List.length_take, lb_len]; omega),
      show p + j - (List.take p l ++ lb j v).length = 0 by rw [List.length_append, List.length_take, lb_len]; omega, List.set_cons_zero]
    simp [Nat.add_assoc]

theorem putL_whole (l : List Int) (v : Int) (n : Nat) (h : l.length = n) : putL l 0 v n = lb n v := by
  subst h
  rw [putL_eq _ _ _ _ (by omega)]
  simp

theorem part_whole (l : List Int) (n : Nat) (h : l.length = n) : part l 0 n = l := by
  subst h
  simp [part]

theorem litv_lb (n : Nat) : ∀ v : Int, 0 ≤ v → v < 256 ^ n → litv (lb n v) = v := by
  induction n with
  | zero => intro v h0 h1; simp [lb, litv] at *; omega
  | succ n ih =>
    intro v h0 h1
    rw [pow256_succ] at h1
    rw [lb, litv, ih _ (by omega) (by omega)]
    omega

theorem lb_zero (n : Nat) : lb n 0 = List.replicate n 0 := by
  induction n with
  | zero => rfl
  | succ n ih => rw [lb, List.replicate_succ, show (0 : Int) % 256 = 0 by decide, show (0 : Int) / 256 = 0 by decide, ih]

/-- Where component i lies. -/
def shf (f : Int) (i : Nat) : Int := if f = 3 then (if i = 0 then 11 else if i = 1 then 5 else 0) else if f = 4 then 10 * i else 8 * i
def wdt (f : Int) (i : Nat) : Int := if f = 3 then (if i = 1 then 6 else 5) else if f = 4 then (if i = 3 then 2 else 10) else 8

def cmp (x0 x1 x2 x3 : Int) (i : Nat) : Int := if i = 0 then x0 else if i = 1 then x1 else if i = 2 then x2 else x3

/-- The number of a texel's first k components. -/
def accK (f x0 x1 x2 x3 : Int) : Nat → Int
  | 0 => 0
  | k + 1 => accK f x0 x1 x2 x3 k + unv (cmp x0 x1 x2 x3 k) (wdt f k) * pw (shf f k)

/-- The pairs of a format with integers and a component. -/
theorem fmt_comp {f : Int} {i : Nat} (hf : f = 1 ∨ f = 2 ∨ f = 3 ∨ f = 4) (hi : i < ncm f) :
    (f = 1 ∧ i = 0) ∨ (f = 2 ∧ (i = 0 ∨ i = 1 ∨ i = 2 ∨ i = 3)) ∨ (f = 3 ∧ (i = 0 ∨ i = 1 ∨ i = 2)) ∨ (f = 4 ∧ (i = 0 ∨ i = 1 ∨ i = 2 ∨ i = 3)) := by
  rcases hf with rfl | rfl | rfl | rfl
  · have hi : i < 1 := hi
    omega
  · have hi : i < 4 := hi
    omega
  · have hi : i < 3 := hi
    omega
  · have hi : i < 4 := hi
    omega

theorem unv_w (x : Int) {b k : Int} (hb : 1 ≤ b ∧ b ≤ 16) (hk : pw b = k) : 0 ≤ unv x b ∧ unv x b < k := by
  have := unv_rng (x := x) hb
  omega

theorem or_low (m : Nat) (acc y : Int) (h0 : 0 ≤ y) (h1 : y < 2 ^ m) (h2 : 0 ≤ acc) (h3 : y + acc * 2 ^ m < 9223372036854775808) : bits .or .i64 (acc * 2 ^ m) y = acc * 2 ^ m + y := by
  rw [or_comm', or_i64 m y acc h0 h1 h2 h3]
  omega

/-- One component more: what the operations meet. -/
theorem acc_step {f x0 x1 x2 x3 : Int} {i : Nat} (hf : f = 1 ∨ f = 2 ∨ f = 3 ∨ f = 4) (hi : i < ncm f) :
    (1 ≤ wdt f i ∧ wdt f i ≤ 16) ∧ (0 ≤ shf f i ∧ shf f i ≤ 30) ∧ (0 ≤ accK f x0 x1 x2 x3 i ∧ accK f x0 x1 x2 x3 i < 256 ^ nsz f) ∧
    (0 ≤ unv (cmp x0 x1 x2 x3 i) (wdt f i) * pw (shf f i) ∧ unv (cmp x0 x1 x2 x3 i) (wdt f i) * pw (shf f i) < 4294967296) ∧
    bits .or .i64 (accK f x0 x1 x2 x3 i) (unv (cmp x0 x1 x2 x3 i) (wdt f i) * pw (shf f i)) = accK f x0 x1 x2 x3 (i + 1) := by
  have p0 : pw 0 = 1 := by decide
  have p11 : pw 11 = 2048 := by decide
  have p16' : pw 16 = 65536 := by decide
  have p20 : pw 20 = 1048576 := by decide
  have p24 : pw 24 = 16777216 := by decide
  have p30 : pw 30 = 1073741824 := by decide
  have o := or_i64
  have q := or_low
  rcases fmt_comp hf hi with ⟨rfl, rfl⟩ | ⟨rfl, rfl | rfl | rfl | rfl⟩ | ⟨rfl, rfl | rfl | rfl⟩ | ⟨rfl, rfl | rfl | rfl | rfl⟩
  · have a0 := unv_w x0 (show (1 : Int) ≤ 8 ∧ (8 : Int) ≤ 16 by omega) p8
    refine ⟨by decide, by decide, ⟨Int.le_refl 0, show (0 : Int) < 256 ^ nsz 1 by decide⟩, ?_⟩
    show (0 ≤ unv x0 8 * pw 0 ∧ unv x0 8 * pw 0 < _) ∧ bits .or .i64 0 (unv x0 8 * pw 0) = 0 + unv x0 8 * pw 0
    rw [p0]
    exact ⟨by omega, o 0 0 _ (by omega) (by decide) (by omega) (by omega)⟩
  · have a0 := unv_w x0 (show (1 : Int) ≤ 8 ∧ (8 : Int) ≤ 16 by omega) p8
    refine ⟨by decide, by decide, ⟨Int.le_refl 0, show (0 : Int) < 256 ^ nsz 2 by decide⟩, ?_⟩
    show (0 ≤ unv x0 8 * pw 0 ∧ unv x0 8 * pw 0 < _) ∧ bits .or .i64 0 (unv x0 8 * pw 0) = 0 + unv x0 8 * pw 0
    rw [p0]
    exact ⟨by omega, o 0 0 _ (by omega) (by decide) (by omega) (by omega)⟩
  · have a0 := unv_w x0 (show (1 : Int) ≤ 8 ∧ (8 : Int) ≤ 16 by omega) p8
    have a1 := unv_w x1 (show (1 : Int) ≤ 8 ∧ (8 : Int) ≤ 16 by omega) p8
    refine ⟨by decide, by decide, ?_⟩
    show (0 ≤ 0 + unv x0 8 * pw 0 ∧ 0 + unv x0 8 * pw 0 < 4294967296) ∧ (0 ≤ unv x1 8 * pw 8 ∧ unv x1 8 * pw 8 < _) ∧ bits .or .i64 (0 + unv x0 8 * pw 0) (unv x1 8 * pw 8) = 0 + unv x0 8 * pw 0 + unv x1 8 * pw 8
    rw [p0, p8]
    exact ⟨by omega, by omega, o 8 _ _ (by omega) (by omega) (by omega) (by omega)⟩
  · have a0 := unv_w x0 (show (1 : Int) ≤ 8 ∧ (8 : Int) ≤ 16 by omega) p8
    have a1 := unv_w x1 (show (1 : Int) ≤ 8 ∧ (8 : Int) ≤ 16 by omega) p8
    have a2 := unv_w x2 (show (1 : Int) ≤ 8 ∧ (8 : Int) ≤ 16 by omega) p8
    refine ⟨by decide, by decide, ?_⟩
    show (0 ≤ 0 + unv x0 8 * pw 0 + unv x1 8 * pw 8 ∧ 0 + unv x0 8 * pw 0 + unv x1 8 * pw 8 < 4294967296) ∧ (0 ≤ unv x2 8 * pw 16 ∧ unv x2 8 * pw 16 < _) ∧ bits .or .i64 (0 + unv x0 8 * pw 0 + unv x1 8 * pw 8) (unv x2 8 * pw 16) = 0 + unv x0 8 * pw 0 + unv x1 8 * pw 8 + unv x2 8 * pw 16
    rw [p0, p8, p16']
    exact ⟨by omega, by omega, o 16 _ _ (by omega) (by omega) (by omega) (by omega)⟩
  · have a0 := unv_w x0 (show (1 : Int) ≤ 8 ∧ (8 : Int) ≤ 16 by omega) p8
    have a1 := unv_w x1 (show (1 : Int) ≤ 8 ∧ (8 : Int) ≤ 16 by omega) p8
    have a2 := unv_w x2 (show (1 : Int) ≤ 8 ∧ (8 : Int) ≤ 16 by omega) p8
    have a3 := unv_w x3 (show (1 : Int) ≤ 8 ∧ (8 : Int) ≤ 16 by omega) p8
    refine ⟨by decide, by decide, ?_⟩
    show (0 ≤ 0 + unv x0 8 * pw 0 + unv x1 8 * pw 8 + unv x2 8 * pw 16 ∧ 0 + unv x0 8 * pw 0 + unv x1 8 * pw 8 + unv x2 8 * pw 16 < 4294967296) ∧ (0 ≤ unv x3 8 * pw 24 ∧ unv x3 8 * pw 24 < _) ∧ bits .or .i64 (0 + unv x0 8 * pw 0 + unv x1 8 * pw 8 + unv x2 8 * pw 16) (unv x3 8 * pw 24) = 0 + unv x0 8 * pw 0 + unv x1 8 * pw 8 + unv x2 8 * pw 16 + unv x3 8 * pw 24
    rw [p0, p8, p16', p24]
    exact ⟨by omega, by omega, o 24 _ _ (by omega) (by omega) (by omega) (by omega)⟩
  · have a0 := unv_w x0 (show (1 : Int) ≤ 5 ∧ (5 : Int) ≤ 16 by omega) p5
    refine ⟨by decide, by decide, ⟨Int.le_refl 0, show (0 : Int) < 256 ^ nsz 3 by decide⟩, ?_⟩
    show (0 ≤ unv x0 5 * pw 11 ∧ unv x0 5 * pw 11 < _) ∧ bits .or .i64 0 (unv x0 5 * pw 11) = 0 + unv x0 5 * pw 11
    rw [p11]
    exact ⟨by omega, o 11 0 _ (by omega) (by decide) (by omega) (by omega)⟩
  · have a0 := unv_w x0 (show (1 : Int) ≤ 5 ∧ (5 : Int) ≤ 16 by omega) p5
    have a1 := unv_w x1 (show (1 : Int) ≤ 6 ∧ (6 : Int) ≤ 16 by omega) p6
    refine ⟨by decide, by decide, ?_⟩
    show (0 ≤ 0 + unv x0 5 * pw 11 ∧ 0 + unv x0 5 * pw 11 < 65536) ∧ (0 ≤ unv x1 6 * pw 5 ∧ unv x1 6 * pw 5 < _) ∧ bits .or .i64 (0 + unv x0 5 * pw 11) (unv x1 6 * pw 5) = 0 + unv x0 5 * pw 11 + unv x1 6 * pw 5
    rw [p11, p5, Int.zero_add]
    exact ⟨by omega, by omega, q 11 _ _ (by omega) (by omega) (by omega) (by omega)⟩
  · have a0 := unv_w x0 (show (1 : Int) ≤ 5 ∧ (5 : Int) ≤ 16 by omega) p5
    have a1 := unv_w x1 (show (1 : Int) ≤ 6 ∧ (6 : Int) ≤ 16 by omega) p6
    have a2 := unv_w x2 (show (1 : Int) ≤ 5 ∧ (5 : Int) ≤ 16 by omega) p5
    refine ⟨by decide, by decide, ?_⟩
    show (0 ≤ 0 + unv x0 5 * pw 11 + unv x1 6 * pw 5 ∧ 0 + unv x0 5 * pw 11 + unv x1 6 * pw 5 < 65536) ∧ (0 ≤ unv x2 5 * pw 0 ∧ unv x2 5 * pw 0 < _) ∧ bits .or .i64 (0 + unv x0 5 * pw 11 + unv x1 6 * pw 5) (unv x2 5 * pw 0) = 0 + unv x0 5 * pw 11 + unv x1 6 * pw 5 + unv x2 5 * pw 0
    rw [p11, p5, p0, show 0 + unv x0 5 * 2048 + unv x1 6 * 32 = (unv x0 5 * 64 + unv x1 6) * 2 ^ 5 by omega, Int.mul_one]
    exact ⟨by omega, by omega, q 5 _ _ (by omega) (by omega) (by omega) (by omega)⟩
  · have a0 := unv_w x0 (show (1 : Int) ≤ 10 ∧ (10 : Int) ≤ 16 by omega) p10
    refine ⟨by decide, by decide, ⟨Int.le_refl 0, show (0 : Int) < 256 ^ nsz 4 by decide⟩, ?_⟩
    show (0 ≤ unv x0 10 * pw 0 ∧ unv x0 10 * pw 0 < _) ∧ bits .or .i64 0 (unv x0 10 * pw 0) = 0 + unv x0 10 * pw 0
    rw [p0]
    exact ⟨by omega, o 0 0 _ (by omega) (by decide) (by omega) (by omega)⟩
  · have a0 := unv_w x0 (show (1 : Int) ≤ 10 ∧ (10 : Int) ≤ 16 by omega) p10
    have a1 := unv_w x1 (show (1 : Int) ≤ 10 ∧ (10 : Int) ≤ 16 by omega) p10
    refine ⟨by decide, by decide, ?_⟩
    show (0 ≤ 0 + unv x0 10 * pw 0 ∧ 0 + unv x0 10 * pw 0 < 4294967296) ∧ (0 ≤ unv x1 10 * pw 10 ∧ unv x1 10 * pw 10 < _) ∧ bits .or .i64 (0 + unv x0 10 * pw 0) (unv x1 10 * pw 10) = 0 + unv x0 10 * pw 0 + unv x1 10 * pw 10
    rw [p0, p10]
    exact ⟨by omega, by omega, o 10 _ _ (by omega) (by omega) (by omega) (by omega)⟩
  · have a0 := unv_w x0 (show (1 : Int) ≤ 10 ∧ (10 : Int) ≤ 16 by omega) p10
    have a1 := unv_w x1 (show (1 : Int) ≤ 10 ∧ (10 : Int) ≤ 16 by omega) p10
    have a2 := unv_w x2 (show (1 : Int) ≤ 10 ∧ (10 : Int) ≤ 16 by omega) p10
    refine ⟨by decide, by decide, ?_⟩
    show (0 ≤ 0 + unv x0 10 * pw 0 + unv x1 10 * pw 10 ∧ 0 + unv x0 10 * pw 0 + unv x1 10 * pw 10 < 4294967296) ∧ (0 ≤ unv x2 10 * pw 20 ∧ unv x2 10 * pw 20 < _) ∧ bits .or .i64 (0 + unv x0 10 * pw 0 + unv x1 10 * pw 10) (unv x2 10 * pw 20) = 0 + unv x0 10 * pw 0 + unv x1 10 * pw 10 + unv x2 10 * pw 20
    rw [p0, p10, p20]
    exact ⟨by omega, by omega, o 20 _ _ (by omega) (by omega) (by omega) (by omega)⟩
  · have a0 := unv_w x0 (show (1 : Int) ≤ 10 ∧ (10 : Int) ≤ 16 by omega) p10
    have a1 := unv_w x1 (show (1 : Int) ≤ 10 ∧ (10 : Int) ≤ 16 by omega) p10
    have a2 := unv_w x2 (show (1 : Int) ≤ 10 ∧ (10 : Int) ≤ 16 by omega) p10
    have a3 := unv_w x3 (show (1 : Int) ≤ 2 ∧ (2 : Int) ≤ 16 by omega) p2
    refine ⟨by decide, by decide, ?_⟩
    show (0 ≤ 0 + unv x0 10 * pw 0 + unv x1 10 * pw 10 + unv x2 10 * pw 20 ∧ 0 + unv x0 10 * pw 0 + unv x1 10 * pw 10 + unv x2 10 * pw 20 < 4294967296) ∧ (0 ≤ unv x3 2 * pw 30 ∧ unv x3 2 * pw 30 < _) ∧ bits .or .i64 (0 + unv x0 10 * pw 0 + unv x1 10 * pw 10 + unv x2 10 * pw 20) (unv x3 2 * pw 30) = 0 + unv x0 10 * pw 0 + unv x1 10 * pw 10 + unv x2 10 * pw 20 + unv x3 2 * pw 30
    rw [p0, p10, p20, p30]
    exact ⟨by omega, by omega, o 30 _ _ (by omega) (by omega) (by omega) (by omega)⟩

/-- All components: the texel's number. -/
theorem acc_all {f x0 x1 x2 x3 : Int} (hf : f = 1 ∨ f = 2 ∨ f = 3 ∨ f = 4) : accK f x0 x1 x2 x3 (ncm f) = pack f x0 x1 x2 x3 := by
  have p0 : pw 0 = 1 := by decide
  have p11 : pw 11 = 2048 := by decide
  have p16' : pw 16 = 65536 := by decide
  have p20 : pw 20 = 1048576 := by decide
  have p24 : pw 24 = 16777216 := by decide
  have p30 : pw 30 = 1073741824 := by decide
  rcases hf with rfl | rfl | rfl | rfl
  · show 0 + unv x0 8 * pw 0 = unv x0 8
    rw [p0]; omega
  · show 0 + unv x0 8 * pw 0 + unv x1 8 * pw 8 + unv x2 8 * pw 16 + unv x3 8 * pw 24 = unv x0 8 + unv x1 8 * 256 + unv x2 8 * 65536 + unv x3 8 * 16777216
    rw [p0, p8, p16', p24]; omega
  · show 0 + unv x0 5 * pw 11 + unv x1 6 * pw 5 + unv x2 5 * pw 0 = unv x2 5 + unv x1 6 * 32 + unv x0 5 * 2048
    rw [p0, p11, p5]; omega
  · show 0 + unv x0 10 * pw 0 + unv x1 10 * pw 10 + unv x2 10 * pw 20 + unv x3 2 * pw 30 = unv x0 10 + unv x1 10 * 1024 + unv x2 10 * 1048576 + unv x3 2 * 1073741824
    rw [p0, p10, p20, p30]; omega

/-- The bytes behind k components. -/
def encK (f x0 x1 x2 x3 : Int) (k : Nat) : List Int :=
  if f = 5 then lb 2 (if 0 < k then hv x0 else 0)
  else if f = 6 then lb 2 (if 0 < k then hv x0 else 0) ++ (lb 2 (if 1 < k then hv x1 else 0) ++ (lb 2 (if 2 < k then hv x2 else 0) ++ lb 2 (if 3 < k then hv x3 else 0)))
  else lb (nsz f) (accK f x0 x1 x2 x3 k)

theorem encK_zero {f x0 x1 x2 x3 : Int} : encK f x0 x1 x2 x3 0 = List.replicate (nsz f) 0 := by
  rcases fmt_cases f with rfl | rfl | rfl | rfl | rfl | rfl | h
  · rfl
  · rfl
  · rfl
  · rfl
  · rfl
  · rfl
  · unfold encK
    rw [if_neg (by omega), if_neg (by omega), nsz_none h]
    rfl

theorem encK_all {f x0 x1 x2 x3 : Int} (hz : nsz f ≠ 0) : encK f x0 x1 x2 x3 (ncm f) = enc f x0 x1 x2 x3 := by
  have hi : f = 1 ∨ f = 2 ∨ f = 3 ∨ f = 4 → encK f x0 x1 x2 x3 (ncm f) = enc f x0 x1 x2 x3 := by
    intro hf
    unfold encK enc
    rw [if_neg (by omega), if_neg (by omega), if_neg (by omega), if_neg (by omega), if_neg hz, acc_all hf]
  rcases fmt_cases f with h | h | h | h | rfl | rfl | h
  · exact hi (by omega)
  · exact hi (by omega)
  · exact hi (by omega)
  · exact hi (by omega)
  · unfold encK enc
    rw [if_pos rfl, if_pos rfl, if_pos (by decide)]
  · unfold encK enc
    rw [if_neg (show ¬ (6 : Int) = 5 by decide), if_pos (rfl : (6 : Int) = 6), if_neg (show ¬ (6 : Int) = 5 by decide), if_pos (rfl : (6 : Int) = 6), if_pos (show 0 < ncm 6 by decide), if_pos (show 1 < ncm 6 by decide), if_pos (show 2 < ncm 6 by decide), if_pos (show 3 < ncm 6 by decide)]
  · exact absurd (nsz_none h) hz

theorem encK_len (f x0 x1 x2 x3 : Int) (k : Nat) : (encK f x0 x1 x2 x3 k).length = nsz f := by
  unfold encK
  by_cases h5 : f = 5
  · subst h5; rw [if_pos rfl, lb_len]; rfl
  · by_cases h6 : f = 6
    · subst h6; rw [if_neg (by decide), if_pos rfl]; simp [lb_len]; rfl
    · rw [if_neg h5, if_neg h6, lb_len]

/-- A half number more. -/
theorem encK_half {f x0 x1 x2 x3 : Int} {i : Nat} (hf : f = 5 ∨ f = 6) (hi : i < ncm f) : putL (encK f x0 x1 x2 x3 i) (2 * i) (hv (cmp x0 x1 x2 x3 i)) 2 = encK f x0 x1 x2 x3 (i + 1) := by
  rw [putL_eq _ _ _ _ (by rw [encK_len]; rcases hf with rfl | rfl; (have hi : i < 1 := hi; show _ ≤ 2; omega); (have hi : i < 4 := hi; show _ ≤ 8; omega))]
  rcases hf with rfl | rfl
  · have hi : i < 1 := hi
    obtain rfl : i = 0 := by omega
    rfl
  · have hi : i < 4 := hi
    rcases (show i = 0 ∨ i = 1 ∨ i = 2 ∨ i = 3 by omega) with rfl | rfl | rfl | rfl
    all_goals rfl

/-- An integer more. -/
theorem encK_int {f x0 x1 x2 x3 : Int} {i : Nat} (hf : f = 1 ∨ f = 2 ∨ f = 3 ∨ f = 4) (hi : i < ncm f) :
    litv (encK f x0 x1 x2 x3 i) = accK f x0 x1 x2 x3 i ∧ putL (encK f x0 x1 x2 x3 i) 0 (accK f x0 x1 x2 x3 (i + 1)) (nsz f) = encK f x0 x1 x2 x3 (i + 1) := by
  have h := acc_step (x0 := x0) (x1 := x1) (x2 := x2) (x3 := x3) hf hi
  rw [putL_whole _ _ _ (encK_len _ _ _ _ _ _)]
  unfold encK
  rw [if_neg (by omega), if_neg (by omega), if_neg (by omega), if_neg (by omega)]
  exact ⟨litv_lb _ _ h.2.2.1.1 h.2.2.1.2, rfl⟩

/-- The components so far. -/
def decK (f : Int) (l : List Int) (k j : Nat) : Int := if j < k then dec f l j else if j = 3 then 65536 else 0

theorem decK_all {f : Int} {l : List Int} (hz : nsz f ≠ 0) (hl : l.length = nsz f) {j : Nat} (hj : j < 4) : decK f l (ncm f) j = dec f l j := by
  unfold decK
  by_cases h : j < ncm f
  · rw [if_pos h]
  · rw [if_neg h, dec_missing f l j hz hl hj (by omega)]

theorem dec_halfK {f : Int} {l : List Int} {i : Nat} (hf : f = 5 ∨ f = 6) (hl : l.length = nsz f) (hi : i < ncm f) : dec f l i = dv (litv (part l (2 * i) 2)) := by
  rcases hf with rfl | rfl
  · have hi : i < 1 := hi
    obtain rfl : i = 0 := by omega
    have hl : l.length = 2 := hl
    rw [show part l (2 * 0) 2 = l from part_whole l 2 hl]
    unfold dec
    rw [if_neg (by rw [hl]; decide), if_pos rfl, if_pos rfl]
  · have hl' : l.length = 8 := hl
    unfold dec
    rw [if_neg (by rw [hl']; decide), if_neg (by decide), if_pos rfl]

/-- What the operations of an integer component meet. -/
theorem dec_step {f : Int} {l : List Int} {i : Nat} (hf : f = 1 ∨ f = 2 ∨ f = 3 ∨ f = 4) (hl : l.length = nsz f) (hr : ∀ x ∈ l, (0 : Int) ≤ x ∧ x ≤ 255) (hi : i < ncm f) :
    dec f l i = fromv (litv l / pw (shf f i) % pw (wdt f i)) (wdt f i) := by
  have p0 : pw 0 = 1 := by decide
  have p11 : pw 11 = 2048 := by decide
  have p16' : pw 16 = 65536 := by decide
  have p20 : pw 20 = 1048576 := by decide
  have p24 : pw 24 = 16777216 := by decide
  have p30 : pw 30 = 1073741824 := by decide
  have hn := litv_rng l hr
  rw [hl] at hn
  have e : dec f l i = fields f (litv l) i := by
    unfold dec
    rw [if_neg (by rw [hl]; rcases hf with rfl | rfl | rfl | rfl <;> simp [nsz]), if_neg (by omega), if_neg (by omega)]
  rw [e]
  obtain ⟨n, hne⟩ : ∃ n, litv l = n := ⟨_, rfl⟩
  rw [hne] at hn ⊢
  rcases fmt_comp hf hi with ⟨rfl, rfl⟩ | ⟨rfl, rfl | rfl | rfl | rfl⟩ | ⟨rfl, rfl | rfl | rfl⟩ | ⟨rfl, rfl | rfl | rfl | rfl⟩
  · have h1 : n < 256 := hn.2
    show fromv n 8 = fromv (n / pw 0 % pw 8) 8
    rw [p0, p8]; congr 1; omega
  · show fromv (n / 256 ^ 0 % 256) 8 = fromv (n / pw 0 % pw 8) 8
    rw [p0, p8]; rfl
  · show fromv (n / 256 ^ 1 % 256) 8 = fromv (n / pw 8 % pw 8) 8
    rw [p8]; rfl
  · show fromv (n / 256 ^ 2 % 256) 8 = fromv (n / pw 16 % pw 8) 8
    rw [p16', p8]; rfl
  · show fromv (n / 256 ^ 3 % 256) 8 = fromv (n / pw 24 % pw 8) 8
    rw [p24, p8]; rfl
  · show fromv (n / 2048 % 32) 5 = fromv (n / pw 11 % pw 5) 5
    rw [p11, p5]
  · show fromv (n / 32 % 64) 6 = fromv (n / pw 5 % pw 6) 6
    rw [p5, p6]
  · show fromv (n % 32) 5 = fromv (n / pw 0 % pw 5) 5
    rw [p0, p5]; congr 1; omega
  · show fromv (n / 1024 ^ 0 % 1024) 10 = fromv (n / pw 0 % pw 10) 10
    rw [p0, p10]; rfl
  · show fromv (n / 1024 ^ 1 % 1024) 10 = fromv (n / pw 10 % pw 10) 10
    rw [p10]; rfl
  · show fromv (n / 1024 ^ 2 % 1024) 10 = fromv (n / pw 20 % pw 10) 10
    rw [p20, p10]; rfl
  · show fromv (n / 1073741824 % 4) 2 = fromv (n / pw 30 % pw 2) 2
    rw [p30, p2]

end Go.Proofs.Ytcjlgfadjedgbaa
