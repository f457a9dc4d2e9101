/- The numbers of the program's texel formats: where a component lies, the bytes that are written one component after the other. No function of a program is named here. -/
import Derived.Test.YtcjlgfadjedgbaaT1
import Derived.Test.YtcjlgfadjedgbaaTail
import Derived.Test.YtcjlgfadjedgbaaTreeC
import Derived.Test.YtcjlgfadjedgbaaMake
namespace Go.Proofs.Ytcjlgfadjedgbaa
open Go.RowKit Go.Sort

/-- Bytes put into a list. -/
theorem putL_eq (l : List Int) (p : Nat) (v : Int) (j : Nat) (h : p + j ≤ l.length) : putL l p v j = l.take p ++ (lb j v ++ l.drop (p + j)) := by
  induction j with
  | zero => simp [putL, lb]
  | succ j ih =>
    have hj : p + j < l.length := by omega
    rw [putL, ih (by omega), lb_snoc, List.drop_eq_getElem_cons hj, ← List.append_assoc, ← List.append_assoc,
      List.set_append_right _ _ (by rw [List.length_append, List.length_take, lb_len]; omega),
      show p + j - (List.take p l ++ lb j v).length = 0 by rw [List.length_append, List.length_take, lb_len]; omega, List.set_cons_zero]
    simp [Nat.add_assoc]

theorem putL_whole (l : List Int) (v : Int) (n : Nat) (h : l.length = n) : putL l 0 v n = lb n v := by
  subst h
  rw [putL_eq _ _ _ _ (by omega)]
  simp

theorem part_whole (l : List Int) (n : Nat) (h : l.length = n) : part l 0 n = l := by
  subst h
  simp [part]

theorem litv_lb (n : Nat) : ∀ v : Int, 0 ≤ v → v < 256 ^ n → litv (lb n v) = v := by
  induction n with
  | zero => intro v h0 h1; simp [lb, litv] at *; omega
  | succ n ih =>
    intro v h0 h1
    rw [pow256_succ] at h1
    rw [lb, litv, ih _ (by omega) (by omega)]
    omega

theorem lb_zero (n : Nat) : lb n 0 = List.replicate n 0 := by
  induction n with
  | zero => rfl
  | succ n ih => rw [lb, List.replicate_succ, show (0 : Int) % 256 = 0 by decide, show (0 : Int) / 256 = 0 by decide, ih]

/-- Where component i lies. -/
def shf (f : Int) (i : Nat) : Int := if f = 3 then (if i = 0 then 11 else if i = 1 then 5 else 0) else if f = 4 then 10 * i else 8 * i
def wdt (f : Int) (i : Nat) : Int := if f = 3 then (if i = 1 then 6 else 5) else if f = 4 then (if i = 3 then 2 else 10) else 8

def cmp (x0 x1 x2 x3 : Int) (i : Nat) : Int := if i = 0 then x0 else if i = 1 then x1 else if i = 2 then x2 else x3

/-- The number of a texel's first k components. -/
def accK (f x0 x1 x2 x3 : Int) : Nat → Int
  | 0 => 0
  | k + 1 => accK f x0 x1 x2 x3 k + unv (cmp x0 x1 x2 x3 k) (wdt f k) * pw (shf f k)

/-- The pairs of a format with integers and a component. -/
theorem fmt_comp {f : Int} {i : Nat} (hf : f = 1 ∨ f = 2 ∨ f = 3 ∨ f = 4) (hi : i < ncm f) :
    (f = 1 ∧ i = 0) ∨ (f = 2 ∧ (i = 0 ∨ i = 1 ∨ i = 2 ∨ i = 3)) ∨ (f = 3 ∧ (i = 0 ∨ i = 1 ∨ i = 2)) ∨ (f = 4 ∧ (i = 0 ∨ i = 1 ∨ i = 2 ∨ i = 3)) := by
  rcases hf with rfl | rfl | rfl | rfl
  · have hi : i < 1 := hi
    omega
  · have hi : i < 4 := hi
    omega
  · have hi : i < 3 := hi
    omega
  · have hi : i < 4 := hi
    omega

theorem unv_w (x : Int) {b k : Int} (hb : 1 ≤ b ∧ b ≤ 16) (hk : pw b = k) : 0 ≤ unv x b ∧ unv x b < k := by
  have := unv_rng (x := x) hb
  omega

theorem or_low (m : Nat) (acc y : Int) (h0 : 0 ≤ y) (h1 : y < 2 ^ m) (h2 : 0 ≤ acc) (h3 : y + acc * 2 ^ m < 9223372036854775808) : bits .or .i64 (acc * 2 ^ m) y = acc * 2 ^ m + y := by
  rw [or_comm', or_i64 m y acc h0 h1 h2 h3]
  omega

/-- One component more: what the operations meet. -/
theorem acc_step {f x0 x1 x2 x3 : Int} {i : Nat} (hf : f = 1 ∨ f = 2 ∨ f = 3 ∨ f = 4) (hi : i < ncm f) :
    (1 ≤ wdt f i ∧ wdt f i ≤ 16) ∧ (0 ≤ shf f i ∧ shf f i ≤ 30) ∧ (0 ≤ accK f x0 x1 x2 x3 i ∧ accK f x0 x1 x2 x3 i < 256 ^ nsz f) ∧
    (0 ≤ unv (cmp x0 x1 x2 x3 i) (wdt f i) * pw (shf f i) ∧ unv (cmp x0 x1 x2 x3 i) (wdt f i) * pw (shf f i) < 4294967296) ∧
    bits .or .i64 (accK f x0 x1 x2 x3 i) (unv (cmp x0 x1 x2 x3 i) (wdt f i) * pw (shf f i)) = accK f x0 x1 x2 x3 (i + 1) := by
  have p0 : pw 0 = 1 := by decide
  have p11 : pw 11 = 2048 := by decide
  have p16' : pw 16 = 65536 := by decide
  have p20 : pw 20 = 1048576 := by decide
  have p24 : pw 24 = 16777216 := by decide
  have p30 : pw 30 = 1073741824 := by decide
  have o := or_i64
  have q := or_low
  rcases fmt_comp hf hi with ⟨rfl, rfl⟩ | ⟨rfl, rfl | rfl | rfl | rfl⟩ | ⟨rfl, rfl | rfl | rfl⟩ | ⟨rfl, rfl | rfl | rfl | rfl⟩
  · have a0 := unv_w x0 (show (1 : Int) ≤ 8 ∧ (8 : Int) ≤ 16 by omega) p8
    refine ⟨by decide, by decide, ⟨Int.le_refl 0, show (0 : Int) < 256 ^ nsz 1 by decide⟩, ?_⟩
    show (0 ≤ unv x0 8 * pw 0 ∧ unv x0 8 * pw 0 < _) ∧ bits .or .i64 0 (unv x0 8 * pw 0) = 0 + unv x0 8 * pw 0
    rw [p0]
    exact ⟨by omega, o 0 0 _ (by omega) (by decide) (by omega) (by omega)⟩
  · have a0 := unv_w x0 (show (1 : Int) ≤ 8 ∧ (8 : Int) ≤ 16 by omega) p8
    refine ⟨by decide, by decide, ⟨Int.le_refl 0, show (0 : Int) < 256 ^ nsz 2 by decide⟩, ?_⟩
    show (0 ≤ unv x0 8 * pw 0 ∧ unv x0 8 * pw 0 < _) ∧ bits .or .i64 0 (unv x0 8 * pw 0) = 0 + unv x0 8 * pw 0
    rw [p0]
    exact ⟨by omega, o 0 0 _ (by omega) (by decide) (by omega) (by omega)⟩
  · have a0 := unv_w x0 (show (1 : Int) ≤ 8 ∧ (8 : Int) ≤ 16 by omega) p8
    have a1 := unv_w x1 (show (1 : Int) ≤ 8 ∧ (8 : Int) ≤ 16 by omega) p8
    refine ⟨by decide, by decide, ?_⟩
    show (0 ≤ 0 + unv x0 8 * pw 0 ∧ 0 + unv x0 8 * pw 0 < 4294967296) ∧ (0 ≤ unv x1 8 * pw 8 ∧ unv x1 8 * pw 8 < _) ∧ bits .or .i64 (0 + unv x0 8 * pw 0) (unv x1 8 * pw 8) = 0 + unv x0 8 * pw 0 + unv x1 8 * pw 8
    rw [p0, p8]
    exact ⟨by omega, by omega, o 8 _ _ (by omega) (by omega) (by omega) (by omega)⟩
  · have a0 := unv_w x0 (show (1 : Int) ≤ 8 ∧ (8 : Int) ≤ 16 by omega) p8
    have a1 := unv_w x1 (show (1 : Int) ≤ 8 ∧ (8 : Int) ≤ 16 by omega) p8
    have a2 := unv_w x2 (show (1 : Int) ≤ 8 ∧ (8 : Int) ≤ 16 by omega) p8
    refine ⟨by decide, by decide, ?_⟩
    show (0 ≤ 0 + unv x0 8 * pw 0 + unv x1 8 * pw 8 ∧ 0 + unv x0 8 * pw 0 + unv x1 8 * pw 8 < 4294967296) ∧ (0 ≤ unv x2 8 * pw 16 ∧ unv x2 8 * pw 16 < _) ∧ bits .or .i64 (0 + unv x0 8 * pw 0 + unv x1 8 * pw 8) (unv x2 8 * pw 16) = 0 + unv x0 8 * pw 0 + unv x1 8 * pw 8 + unv x2 8 * pw 16
    rw [p0, p8, p16']
    exact ⟨by omega, by omega, o 16 _ _ (by omega) (by omega) (by omega) (by omega)⟩
  · have a0 := unv_w x0 (show (1 : Int) ≤ 8 ∧ (8 : Int) ≤ 16 by omega) p8
    have a1 := unv_w x1 (show (1 : Int) ≤ 8 ∧ (8 : Int) ≤ 16 by omega) p8
    have a2 := unv_w x2 (show (1 : Int) ≤ 8 ∧ (8 : Int) ≤ 16 by omega) p8
    have a3 := unv_w x3 (show (1 : Int) ≤ 8 ∧ (8 : Int) ≤ 16 by omega) p8
    refine ⟨by decide, by decide, ?_⟩
    show (0 ≤ 0 + unv x0 8 * pw 0 + unv x1 8 * pw 8 + unv x2 8 * pw 16 ∧ 0 + unv x0 8 * pw 0 + unv x1 8 * pw 8 + unv x2 8 * pw 16 < 4294967296) ∧ (0 ≤ unv x3 8 * pw 24 ∧ unv x3 8 * pw 24 < _) ∧ bits .or .i64 (0 + unv x0 8 * pw 0 + unv x1 8 * pw 8 + unv x2 8 * pw 16) (unv x3 8 * pw 24) = 0 + unv x0 8 * pw 0 + unv x1 8 * pw 8 + unv x2 8 * pw 16 + unv x3 8 * pw 24
    rw [p0, p8, p16', p24]
    exact ⟨by omega, by omega, o 24 _ _ (by omega) (by omega) (by omega) (by omega)⟩
  · have a0 := unv_w x0 (show (1 : Int) ≤ 5 ∧ (5 : Int) ≤ 16 by omega) p5
    refine ⟨by decide, by decide, ⟨Int.le_refl 0, show (0 : Int) < 256 ^ nsz 3 by decide⟩, ?_⟩
    show (0 ≤ unv x0 5 * pw 11 ∧ unv x0 5 * pw 11 < _) ∧ bits .or .i64 0 (unv x0 5 * pw 11) = 0 + unv x0 5 * pw 11
    rw [p11]
    exact ⟨by omega, o 11 0 _ (by omega) (by decide) (by omega) (by omega)⟩
  · have a0 := unv_w x0 (show (1 : Int) ≤ 5 ∧ (5 : Int) ≤ 16 by omega) p5
    have a1 := unv_w x1 (show (1 : Int) ≤ 6 ∧ (6 : Int) ≤ 16 by omega) p6
    refine ⟨by decide, by decide, ?_⟩
    show (0 ≤ 0 + unv x0 5 * pw 11 ∧ 0 + unv x0 5 * pw 11 < 65536) ∧ (0 ≤ unv x1 6 * pw 5 ∧ unv x1 6 * pw 5 < _) ∧ bits .or .i64 (0 + unv x0 5 * pw 11) (unv x1 6 * pw 5) = 0 + unv x0 5 * pw 11 + unv x1 6 * pw 5
    rw [p11, p5, Int.zero_add]
    exact ⟨by omega, by omega, q 11 _ _ (by omega) (by omega) (by omega) (by omega)⟩
  · have a0 := unv_w x0 (show (1 : Int) ≤ 5 ∧ (5 : Int) ≤ 16 by omega) p5
    have a1 := unv_w x1 (show (1 : Int) ≤ 6 ∧ (6 : Int) ≤ 16 by omega) p6
    have a2 := unv_w x2 (show (1 : Int) ≤ 5 ∧ (5 : Int) ≤ 16 by omega) p5
    refine ⟨by decide, by decide, ?_⟩
    show (0 ≤ 0 + unv x0 5 * pw 11 + unv x1 6 * pw 5 ∧ 0 + unv x0 5 * pw 11 + unv x1 6 * pw 5 < 65536) ∧ (0 ≤ unv x2 5 * pw 0 ∧ unv x2 5 * pw 0 < _) ∧ bits .or .i64 (0 + unv x0 5 * pw 11 + unv x1 6 * pw 5) (unv x2 5 * pw 0) = 0 + unv x0 5 * pw 11 + unv x1 6 * pw 5 + unv x2 5 * pw 0
    rw [p11, p5, p0, show 0 + unv x0 5 * 2048 + unv x1 6 * 32 = (unv x0 5 * 64 + unv x1 6) * 2 ^ 5 by omega, Int.mul_one]
    exact ⟨by omega, by omega, q 5 _ _ (by omega) (by omega) (by omega) (by omega)⟩
  · have a0 := unv_w x0 (show (1 : Int) ≤ 10 ∧ (10 : Int) ≤ 16 by omega) p10
    refine ⟨by decide, by decide, ⟨Int.le_refl 0, show (0 : Int) < 256 ^ nsz 4 by decide⟩, ?_⟩
    show (0 ≤ unv x0 10 * pw 0 ∧ unv x0 10 * pw 0 < _) ∧ bits .or .i64 0 (unv x0 10 * pw 0) = 0 + unv x0 10 * pw 0
    rw [p0]
    exact ⟨by omega, o 0 0 _ (by omega) (by decide) (by omega) (by omega)⟩
  · have a0 := unv_w x0 (show (1 : Int) ≤ 10 ∧ (10 : Int) ≤ 16 by omega) p10
    have a1 := unv_w x1 (show (1 : Int) ≤ 10 ∧ (10 : Int) ≤ 16 by omega) p10
    refine ⟨by decide, by decide, ?_⟩
    show (0 ≤ 0 + unv x0 10 * pw 0 ∧ 0 + unv x0 10 * pw 0 < 4294967296) ∧ (0 ≤ unv x1 10 * pw 10 ∧ unv x1 10 * pw 10 < _) ∧ bits .or .i64 (0 + unv x0 10 * pw 0) (unv x1 10 * pw 10) = 0 + unv x0 10 * pw 0 + unv x1 10 * pw 10
    rw [p0, p10]
    exact ⟨by omega, by omega, o 10 _ _ (by omega) (by omega) (by omega) (by omega)⟩
  · have a0 := unv_w x0 (show (1 : Int) ≤ 10 ∧ (10 : Int) ≤ 16 by omega) p10
    have a1 := unv_w x1 (show (1 : Int) ≤ 10 ∧ (10 : Int) ≤ 16 by omega) p10
    have a2 := unv_w x2 (show (1 : Int) ≤ 10 ∧ (10 : Int) ≤ 16 by omega) p10
    refine ⟨by decide, by decide, ?_⟩
    show (0 ≤ 0 + unv x0 10 * pw 0 + unv x1 10 * pw 10 ∧ 0 + unv x0 10 * pw 0 + unv x1 10 * pw 10 < 4294967296) ∧ (0 ≤ unv x2 10 * pw 20 ∧ unv x2 10 * pw 20 < _) ∧ bits .or .i64 (0 + unv x0 10 * pw 0 + unv x1 10 * pw 10) (unv x2 10 * pw 20) = 0 + unv x0 10 * pw 0 + unv x1 10 * pw 10 + unv x2 10 * pw 20
    rw [p0, p10, p20]
    exact ⟨by omega, by omega, o 20 _ _ (by omega) (by omega) (by omega) (by omega)⟩
  · have a0 := unv_w x0 (show (1 : Int) ≤ 10 ∧ (10 : Int) ≤ 16 by omega) p10
    have a1 := unv_w x1 (show (1 : Int) ≤ 10 ∧ (10 : Int) ≤ 16 by omega) p10
    have a2 := unv_w x2 (show (1 : Int) ≤ 10 ∧ (10 : Int) ≤ 16 by omega) p10
    have a3 := unv_w x3 (show (1 : Int) ≤ 2 ∧ (2 : Int) ≤ 16 by omega) p2
    refine ⟨by decide, by decide, ?_⟩
    show (0 ≤ 0 + unv x0 10 * pw 0 + unv x1 10 * pw 10 + unv x2 10 * pw 20 ∧ 0 + unv x0 10 * pw 0 + unv x1 10 * pw 10 + unv x2 10 * pw 20 < 4294967296) ∧ (0 ≤ unv x3 2 * pw 30 ∧ unv x3 2 * pw 30 < _) ∧ bits .or .i64 (0 + unv x0 10 * pw 0 + unv x1 10 * pw 10 + unv x2 10 * pw 20) (unv x3 2 * pw 30) = 0 + unv x0 10 * pw 0 + unv x1 10 * pw 10 + unv x2 10 * pw 20 + unv x3 2 * pw 30
    rw [p0, p10, p20, p30]
    exact ⟨by omega, by omega, o 30 _ _ (by omega) (by omega) (by omega) (by omega)⟩

/-- All components: the texel's number. -/
theorem acc_all {f x0 x1 x2 x3 : Int} (hf : f = 1 ∨ f = 2 ∨ f = 3 ∨ f = 4) : accK f x0 x1 x2 x3 (ncm f) = pack f x0 x1 x2 x3 := by
  have p0 : pw 0 = 1 := by decide
  have p11 : pw 11 = 2048 := by decide
  have p16' : pw 16 = 65536 := by decide
  have p20 : pw 20 = 1048576 := by decide
  have p24 : pw 24 = 16777216 := by decide
  have p30 : pw 30 = 1073741824 := by decide
  rcases hf with rfl | rfl | rfl | rfl
  · show 0 + unv x0 8 * pw 0 = unv x0 8
    rw [p0]; omega
  · show 0 + unv x0 8 * pw 0 + unv x1 8 * pw 8 + unv x2 8 * pw 16 + unv x3 8 * pw 24 = unv x0 8 + unv x1 8 * 256 + unv x2 8 * 65536 + unv x3 8 * 16777216
    rw [p0, p8, p16', p24]; omega
  · show 0 + unv x0 5 * pw 11 + unv x1 6 * pw 5 + unv x2 5 * pw 0 = unv x2 5 + unv x1 6 * 32 + unv x0 5 * 2048
    rw [p0, p11, p5]; omega
  · show 0 + unv x0 10 * pw 0 + unv x1 10 * pw 10 + unv x2 10 * pw 20 + unv x3 2 * pw 30 = unv x0 10 + unv x1 10 * 1024 + unv x2 10 * 1048576 + unv x3 2 * 1073741824
    rw [p0, p10, p20, p30]; omega

/-- The bytes behind k components. -/
def encK (f x0 x1 x2 x3 : Int) (k : Nat) : List Int :=
  if f = 5 then lb 2 (if 0 < k then hv x0 else 0)
  else if f = 6 then lb 2 (if 0 < k then hv x0 else 0) ++ (lb 2 (if 1 < k then hv x1 else 0) ++ (lb 2 (if 2 < k then hv x2 else 0) ++ lb 2 (if 3 < k then hv x3 else 0)))
  else lb (nsz f) (accK f x0 x1 x2 x3 k)

theorem encK_zero {f x0 x1 x2 x3 : Int} : encK f x0 x1 x2 x3 0 = List.replicate (nsz f) 0 := by
  rcases fmt_cases f with rfl | rfl | rfl | rfl | rfl | rfl | h
  · rfl
  · rfl
  · rfl
  · rfl
  · rfl
  · rfl
  · unfold encK
    rw [if_neg (by omega), if_neg (by omega), nsz_none h]
    rfl

theorem encK_all {f x0 x1 x2 x3 : Int} (hz : nsz f ≠ 0) : encK f x0 x1 x2 x3 (ncm f) = enc f x0 x1 x2 x3 := by
  have hi : f = 1 ∨ f = 2 ∨ f = 3 ∨ f = 4 → encK f x0 x1 x2 x3 (ncm f) = enc f x0 x1 x2 x3 := by
    intro hf
    unfold encK enc
    rw [if_neg (by omega), if_neg (by omega), if_neg (by omega), if_neg (by omega), if_neg hz, acc_all hf]
  rcases fmt_cases f with h | h | h | h | rfl | rfl | h
  · exact hi (by omega)
  · exact hi (by omega)
  · exact hi (by omega)
  · exact hi (by omega)
  · unfold encK enc
    rw [if_pos rfl, if_pos rfl, if_pos (by decide)]
  · unfold encK enc
    rw [if_neg (show ¬ (6 : Int) = 5 by decide), if_pos (rfl : (6 : Int) = 6), if_neg (show ¬ (6 : Int) = 5 by decide), if_pos (rfl : (6 : Int) = 6), if_pos (show 0 < ncm 6 by decide), if_pos (show 1 < ncm 6 by decide), if_pos (show 2 < ncm 6 by decide), if_pos (show 3 < ncm 6 by decide)]
  · exact absurd (nsz_none h) hz

theorem encK_len (f x0 x1 x2 x3 : Int) (k : Nat) : (encK f x0 x1 x2 x3 k).length = nsz f := by
  unfold encK
  by_cases h5 : f = 5
  · subst h5; rw [if_pos rfl, lb_len]; rfl
  · by_cases h6 : f = 6
    · subst h6; rw [if_neg (by decide), if_pos rfl]; simp [lb_len]; rfl
    · rw [if_neg h5, if_neg h6, lb_len]

/-- A half number more. -/
theorem encK_half {f x0 x1 x2 x3 : Int} {i : Nat} (hf : f = 5 ∨ f = 6) (hi : i < ncm f) : putL (encK f x0 x1 x2 x3 i) (2 * i) (hv (cmp x0 x1 x2 x3 i)) 2 = encK f x0 x1 x2 x3 (i + 1) := by
  rw [putL_eq _ _ _ _ (by rw [encK_len]; rcases hf with rfl | rfl; (have hi : i < 1 := hi; show _ ≤ 2; omega); (have hi : i < 4 := hi; show _ ≤ 8; omega))]
  rcases hf with rfl | rfl
  · have hi : i < 1 := hi
    obtain rfl : i = 0 := by omega
    rfl
  · have hi : i < 4 := hi
    rcases (show i = 0 ∨ i = 1 ∨ i = 2 ∨ i = 3 by omega) with rfl | rfl | rfl | rfl
    all_goals rfl

/-- An integer more. -/
theorem encK_int {f x0 x1 x2 x3 : Int} {i : Nat} (hf : f = 1 ∨ f = 2 ∨ f = 3 ∨ f = 4) (hi : i < ncm f) :
    litv (encK f x0 x1 x2 x3 i) = accK f x0 x1 x2 x3 i ∧ putL (encK f x0 x1 x2 x3 i) 0 (accK f x0 x1 x2 x3 (i + 1)) (nsz f) = encK f x0 x1 x2 x3 (i + 1) := by
  have h := acc_step (x0 := x0) (x1 := x1) (x2 := x2) (x3 := x3) hf hi
  rw [putL_whole _ _ _ (encK_len _ _ _ _ _ _)]
  unfold encK
  rw [if_neg (by omega), if_neg (by omega), if_neg (by omega), if_neg (by omega)]
  exact ⟨litv_lb _ _ h.2.2.1.1 h.2.2.1.2, rfl⟩

/-- The components so far. -/
def decK (f : Int) (l : List Int) (k j : Nat) : Int := if j < k then dec f l j else if j = 3 then 65536 else 0

theorem decK_all {f : Int} {l : List Int} (hz : nsz f ≠ 0) (hl : l.length = nsz f) {j : Nat} (hj : j < 4) : decK f l (ncm f) j = dec f l j := by
  unfold decK
  by_cases h : j < ncm f
  · rw [if_pos h]
  · rw [if_neg h, dec_missing f l j hz hl hj (by omega)]

theorem dec_halfK {f : Int} {l : List Int} {i : Nat} (hf : f = 5 ∨ f = 6) (hl : l.length = nsz f) (hi : i < ncm f) : dec f l i = dv (litv (part l (2 * i) 2)) := by
  rcases hf with rfl | rfl
  · have hi : i < 1 := hi
    obtain rfl : i = 0 := by omega
    have hl : l.length = 2 := hl
    rw [show part l (2 * 0) 2 = l from part_whole l 2 hl]
    unfold dec
    rw [if_neg (by rw [hl]; decide), if_pos rfl, if_pos rfl]
  · have hl' : l.length = 8 := hl
    unfold dec
    rw [if_neg (by rw [hl']; decide), if_neg (by decide), if_pos rfl]

/-- What the operations of an integer component meet. -/
theorem dec_step {f : Int} {l : List Int} {i : Nat} (hf : f = 1 ∨ f = 2 ∨ f = 3 ∨ f = 4) (hl : l.length = nsz f) (hr : ∀ x ∈ l, (0 : Int) ≤ x ∧ x ≤ 255) (hi : i < ncm f) :
    dec f l i = fromv (litv l / pw (shf f i) % pw (wdt f i)) (wdt f i) := by
  have p0 : pw 0 = 1 := by decide
  have p11 : pw 11 = 2048 := by decide
  have p16' : pw 16 = 65536 := by decide
  have p20 : pw 20 = 1048576 := by decide
  have p24 : pw 24 = 16777216 := by decide
  have p30 : pw 30 = 1073741824 := by decide
  have hn := litv_rng l hr
  rw [hl] at hn
  have e : dec f l i = fields f (litv l) i := by
    unfold dec
    rw [if_neg (by rw [hl]; rcases hf with rfl | rfl | rfl | rfl <;> simp [nsz]), if_neg (by omega), if_neg (by omega)]
  rw [e]
  obtain ⟨n, hne⟩ : ∃ n, litv l = n := ⟨_, rfl⟩
  rw [hne] at hn ⊢
  rcases fmt_comp hf hi with ⟨rfl, rfl⟩ | ⟨rfl, rfl | rfl | rfl | rfl⟩ | ⟨rfl, rfl | rfl | rfl⟩ | ⟨rfl, rfl | rfl | rfl | rfl⟩
  · have h1 : n < 256 := hn.2
    show fromv n 8 = fromv (n / pw 0 % pw 8) 8
    rw [p0, p8]; congr 1; omega
  · show fromv (n / 256 ^ 0 % 256) 8 = fromv (n / pw 0 % pw 8) 8
    rw [p0, p8]; rfl
  · show fromv (n / 256 ^ 1 % 256) 8 = fromv (n / pw 8 % pw 8) 8
    rw [p8]; rfl
  · show fromv (n / 256 ^ 2 % 256) 8 = fromv (n / pw 16 % pw 8) 8
    rw [p16', p8]; rfl
  · show fromv (n / 256 ^ 3 % 256) 8 = fromv (n / pw 24 % pw 8) 8
    rw [p24, p8]; rfl
  · show fromv (n / 2048 % 32) 5 = fromv (n / pw 11 % pw 5) 5
    rw [p11, p5]
  · show fromv (n / 32 % 64) 6 = fromv (n / pw 5 % pw 6) 6
    rw [p5, p6]
  · show fromv (n % 32) 5 = fromv (n / pw 0 % pw 5) 5
    rw [p0, p5]; congr 1; omega
  · show fromv (n / 1024 ^ 0 % 1024) 10 = fromv (n / pw 0 % pw 10) 10
    rw [p0, p10]; rfl
  · show fromv (n / 1024 ^ 1 % 1024) 10 = fromv (n / pw 10 % pw 10) 10
    rw [p10]; rfl
  · show fromv (n / 1024 ^ 2 % 1024) 10 = fromv (n / pw 20 % pw 10) 10
    rw [p20, p10]; rfl
  · show fromv (n / 1073741824 % 4) 2 = fromv (n / pw 30 % pw 2) 2
    rw [p30, p2]

end Go.Proofs.Ytcjlgfadjedgbaa

/- What the small functions of package texel return; UNorm, FromUNorm; where a component lies. -/
namespace Go.Proofs.Ytcjlgfadjedgbaa
open Go.RowKit Go.Sort

theorem of_q {f : FuncId} {args : Array Value} {w : World} {v : Value} (h : Calls Try.prog f args w fun e w' => e = .returned v ∧ w = w') : Calls Try.prog f args w fun e w' => e = .returned v ∧ Below w.heap.size w w' :=
  h.mono (by rintro _ _ ⟨rfl, rfl⟩; exact ⟨rfl, Below.refl _ _⟩)

set_option maxRecDepth 100000 in
theorem tsize_q (f : Int) (w : World) : Calls Try.prog 37 #[.int .i64 f] w fun e w' => e = .returned (.int .i64 (nsz f : Nat)) ∧ w = w' := by
  rcases fmt_cases f with rfl | rfl | rfl | rfl | rfl | rfl | h
  all_goals try (go_enter Try.func37, Try.ntmps37; go_wp2; go_ret; exact ⟨rfl, rfl⟩)
  rw [nsz_none h]
  obtain ⟨h1, h2, h3, h4, h5, h6⟩ := h
  go_enter Try.func37, Try.ntmps37
  go_wp2
  go_ret
  exact ⟨rfl, rfl⟩

set_option maxRecDepth 100000 in
theorem tcomps_q (f : Int) (w : World) : Calls Try.prog 60 #[.int .i64 f] w fun e w' => e = .returned (.int .i64 (ncm f : Nat)) ∧ w = w' := by
  rcases fmt_cases f with rfl | rfl | rfl | rfl | rfl | rfl | h
  all_goals try (go_enter Try.func60, Try.ntmps60; go_wp2; go_ret; exact ⟨rfl, rfl⟩)
  rw [ncm_none h]
  obtain ⟨h1, h2, h3, h4, h5, h6⟩ := h
  go_enter Try.func60, Try.ntmps60
  go_wp2
  go_ret
  exact ⟨rfl, rfl⟩

set_option maxRecDepth 100000 in
theorem tvalid_q (f : Int) (w : World) : Calls Try.prog 57 #[.int .i64 f] w fun e w' => e = .returned (.bool (isf f)) ∧ w = w' := by
  have c := fun W => tsize_q f W
  unfold isf
  obtain ⟨n, hn⟩ : ∃ n, nsz f = n := ⟨_, rfl⟩
  rw [hn] at c ⊢
  have C := Lib.hid c
  clear c hn
  go_enter Try.func57, Try.ntmps57
  go_wp2_with (go_at_call 37; with_reducible refine (C.out _).mono ?_; rintro _ _ ⟨rfl, rfl⟩)
  go_ret
  refine ⟨congrArg (fun b => Ending.returned (.bool b)) ?_, rfl⟩
  cases n <;> simp <;> omega

theorem tsize_b (f : Int) (w : World) : Calls Try.prog 37 #[.int .i64 f] w fun e w' => e = .returned (.int .i64 (nsz f : Nat)) ∧ Below w.heap.size w w' := of_q (tsize_q f w)

theorem tvalid_b (f : Int) (w : World) : Calls Try.prog 57 #[.int .i64 f] w fun e w' => e = .returned (.bool (isf f)) ∧ Below w.heap.size w w' := of_q (tvalid_q f w)

theorem tcomps_b (f : Int) (w : World) : Calls Try.prog 60 #[.int .i64 f] w fun e w' => e = .returned (.int .i64 (ncm f : Nat)) ∧ Below w.heap.size w w' := of_q (tcomps_q f w)

theorem iswidth_q (b : Int) (w : World) : Calls Try.prog 108 #[.int .i64 b] w fun e w' => e = .returned (.bool (decide (1 ≤ b ∧ b ≤ 16))) ∧ w = w' := by
  by_cases h : 1 ≤ b ∧ b ≤ 16
  · rw [decide_eq_true h]
    go_enter Try.func108, Try.ntmps108
    go_wp2
    go_ret
    exact ⟨rfl, rfl⟩
  · rw [decide_eq_false h]
    rcases (show b < 1 ∨ (1 ≤ b ∧ 16 < b) by omega) with h1 | ⟨h1, h2⟩
    all_goals (clear h; go_enter Try.func108, Try.ntmps108; go_wp2; go_ret; exact ⟨congrArg (fun b => Ending.returned (.bool b)) (by simp <;> omega), rfl⟩)

theorem maxunorm_q (b p : Int) (w : World) (h0 : 1 ≤ b) (h1 : b ≤ 16) (hp : IntKind.i64.wrap (2 ^ b.toNat) = p) (p0 : 2 ≤ p) (p1 : p ≤ 65536) : Calls Try.prog 110 #[.int .i64 b] w fun e w' => e = .returned (.int .i64 (p - 1)) ∧ w = w' := by
  go_enter Try.func110, Try.ntmps110
  go_wp2
  go_ret
  exact ⟨rfl, rfl⟩

set_option maxRecDepth 100000 in
theorem ishalf_q (f : Int) (w : World) : Calls Try.prog 84 #[.int .i64 f] w fun e w' => e = .returned (.bool (decide (f = 5 ∨ f = 6))) ∧ w = w' := by
  rcases (show f = 5 ∨ f = 6 ∨ (f ≠ 5 ∧ f ≠ 6) by omega) with rfl | rfl | ⟨h1, h2⟩
  · go_enter Try.func84, Try.ntmps84
    go_wp2
    go_ret
    exact ⟨rfl, rfl⟩
  · go_enter Try.func84, Try.ntmps84
    go_wp2
    go_ret
    exact ⟨rfl, rfl⟩
  · rw [decide_eq_false (show ¬ (f = 5 ∨ f = 6) by omega)]
    go_enter Try.func84, Try.ntmps84
    go_wp2
    go_ret
    exact ⟨congrArg (fun b => Ending.returned (.bool b)) (by simp [h1, h2]), rfl⟩

set_option maxRecDepth 100000 in
theorem tunorm_b (x b : Int) (w : World) : Calls Try.prog 90 #[.int .i64 x, .int .i64 b] w fun e w' => e = .returned (.int .i64 (unv x b)) ∧ Below w.heap.size w w' := by
  have BB : Below w.heap.size w w := Below.refl _ _
  have ci := fun W => of_q (iswidth_q b W)
  by_cases h : 1 ≤ b ∧ b ≤ 16
  · obtain ⟨c, p, z, e1, e2, e3, p0, p1, e4, e5⟩ := unorm_steps (x := x) h
    rw [decide_eq_true h] at ci
    have c1 := fun W => clamp_b x 0 65536 W
    have c2 := fun W => rounddiv_b z 65536 W
    have c3 := fun W => of_q (maxunorm_q b p W h.1 h.2 e3 p0 p1)
    rw [e1] at c1
    rw [e5] at c2
    obtain ⟨u, hu⟩ : ∃ u, unv x b = u := ⟨_, rfl⟩
    rw [hu] at c2 ⊢
    have C1 := Lib.hid c1
    have C2 := Lib.hid c2
    have C3 := Lib.hid c3
    have CI := Lib.hid ci
    clear c1 c2 c3 ci e1 e2 e5 hu e3
    go_enter Try.func90, Try.ntmps90
    go_wp2_with (first | (go_at_call 108; refine (CI.out _).mono ?_; rintro _ _ ⟨rfl, B⟩; replace BB := bon BB B) | (go_at_call 109; refine (C1.out _).mono ?_; rintro _ _ ⟨rfl, B⟩; replace BB := bon BB B) | (go_at_call 110; refine (C3.out _).mono ?_; rintro _ _ ⟨rfl, B⟩; replace BB := bon BB B) | (go_at_call 62; refine (C2.out _).mono ?_; rintro _ _ ⟨rfl, B⟩; replace BB := bon BB B))
    go_ret
    exact ⟨rfl, BB⟩
  · rw [unv_out h]
    rw [decide_eq_false h] at ci
    have CI := Lib.hid ci
    clear h ci
    go_enter Try.func90, Try.ntmps90
    go_wp2_with (first | (go_at_call 108; refine (CI.out _).mono ?_; rintro _ _ ⟨rfl, B⟩; replace BB := bon BB B))
    go_ret
    exact ⟨rfl, BB⟩

set_option maxRecDepth 100000 in
theorem tfromu_b (n b : Int) (w : World) : Calls Try.prog 114 #[.int .i64 n, .int .i64 b] w fun e w' => e = .returned (.int .i64 (fromv n b)) ∧ Below w.heap.size w w' := by
  have BB : Below w.heap.size w w := Below.refl _ _
  have ci := fun W => of_q (iswidth_q b W)
  by_cases h : 1 ≤ b ∧ b ≤ 16
  · obtain ⟨c, p, e1, e3, p0, p1, c0, c4, e5⟩ := fromu_steps (n := n) h
    rw [decide_eq_true h] at ci
    have c1 := fun W => clamp_b n 0 (p - 1) W
    have c2 := fun W => rounddiv_b (c * 65536) (p - 1) W
    have c3 := fun W => of_q (maxunorm_q b p W h.1 h.2 e3 p0 p1)
    rw [e1] at c1
    rw [e5] at c2
    obtain ⟨u, hu⟩ : ∃ u, fromv n b = u := ⟨_, rfl⟩
    rw [hu] at c2 ⊢
    have C1 := Lib.hid c1
    have C2 := Lib.hid c2
    have C3 := Lib.hid c3
    have CI := Lib.hid ci
    clear c1 c2 c3 ci e1 e5 hu e3
    go_enter Try.func114, Try.ntmps114
    go_wp2_with (first | (go_at_call 108; refine (CI.out _).mono ?_; rintro _ _ ⟨rfl, B⟩; replace BB := bon BB B) | (go_at_call 109; refine (C1.out _).mono ?_; rintro _ _ ⟨rfl, B⟩; replace BB := bon BB B) | (go_at_call 110; refine (C3.out _).mono ?_; rintro _ _ ⟨rfl, B⟩; replace BB := bon BB B) | (go_at_call 62; refine (C2.out _).mono ?_; rintro _ _ ⟨rfl, B⟩; replace BB := bon BB B))
    go_ret
    exact ⟨rfl, BB⟩
  · rw [fromv_out h]
    rw [decide_eq_false h] at ci
    have CI := Lib.hid ci
    clear h ci
    go_enter Try.func114, Try.ntmps114
    go_wp2_with (first | (go_at_call 108; refine (CI.out _).mono ?_; rintro _ _ ⟨rfl, B⟩; replace BB := bon BB B))
    go_ret
    exact ⟨rfl, BB⟩

/-- An array of structs by value, read at an index that it has. -/
theorem run_index_in {P : Program} {w : World} (t e : TypeId) (n m : Nat) (cs : Array Value) (k : IntKind) (i : Int) (h : P.underlying t = some (.array n e)) (T : RowType P e m) (h0 : 0 ≤ i) (h1 : i < (n : Int)) :
    (Instr.index t (.agg cs) (.int k i)).run P w = .ok (.agg (cs.extract (i.toNat * m) (i.toNat * m + m))) w := by
  have hn : 0 ≤ i ∧ i < (n : Int) := ⟨h0, h1⟩
  have hS : ∀ W, (sizeOf e).run P W = .ok m W := fun W => by
    have := T.size
    cases hq : P.info? e with
    | none => rw [hq] at this; cases this
    | some x => rw [hq] at this; injection this with this; subst this; simp [Sem.run_bind, sizeOf, typeInfo, hq, Result.andThen]
  simp [Instr.index, run_underlying h, asIntOf, hn, hS, T.agg, go_sem]

theorem fieldT : RowType Try.prog 92 2 := ⟨fun W => by unfold isAgg; rw [Sem.run_bind, run_underlying Try.underlying92 W]; simp, by kernel_rfl⟩

/-- Where a component lies. -/
def PlaceGives (w : World) (s b : Int) (e : Ending) (w' : World) : Prop := e = .returned (.agg #[.int .i64 s, .int .i64 b]) ∧ Below w.heap.size w w'

set_option maxRecDepth 100000 in
set_option maxHeartbeats 1000000 in
theorem place_12 (f : Int) (i : Nat) (w : World) (hf : f = 1 ∨ f = 2) (hi : i ≤ 3) : Calls Try.prog 88 #[.int .i64 f, .int .i64 i] w (PlaceGives w (8 * i) 8) := by
  unfold PlaceGives
  rcases hf with rfl | rfl
  all_goals
    go_enter Try.func88, Try.ntmps88
    go_wp2
    exact bodyPost_ret (v := .agg #[.int .i64 (8 * i), .int .i64 8]) (by simp [results, Try.results88, go_sem]) rfl ⟨rfl, (Below.refl _ _).alloc (Nat.le_refl _) _⟩

set_option maxRecDepth 100000 in
set_option maxHeartbeats 1000000 in
theorem place_30 (w : World) : Calls Try.prog 88 #[.int .i64 3, .int .i64 0] w (PlaceGives w 11 5) := by
  unfold PlaceGives
  have hx : ∀ W : World, (Instr.index 104 (.agg #[.int .i64 11, .int .i64 5, .int .i64 5, .int .i64 6, .int .i64 0, .int .i64 5]) (.int .i64 0)).run Try.prog W = .ok (.agg #[.int .i64 11, .int .i64 5]) W := fun W =>
    run_index_in 104 92 3 2 _ .i64 0 (by kernel_rfl) fieldT (by omega) (by omega)
  go_enter Try.func88, Try.ntmps88
  go_wp2
  exact bodyPost_ret (v := .agg #[.int .i64 11, .int .i64 5]) (by simp [results, Try.results88, go_sem]) rfl ⟨rfl, (Below.refl _ _).alloc (Nat.le_refl _) _⟩

set_option maxRecDepth 100000 in
set_option maxHeartbeats 1000000 in
theorem place_31 (w : World) : Calls Try.prog 88 #[.int .i64 3, .int .i64 1] w (PlaceGives w 5 6) := by
  unfold PlaceGives
  have hx : ∀ W : World, (Instr.index 104 (.agg #[.int .i64 11, .int .i64 5, .int .i64 5, .int .i64 6, .int .i64 0, .int .i64 5]) (.int .i64 1)).run Try.prog W = .ok (.agg #[.int .i64 5, .int .i64 6]) W := fun W =>
    run_index_in 104 92 3 2 _ .i64 1 (by kernel_rfl) fieldT (by omega) (by omega)
  go_enter Try.func88, Try.ntmps88
  go_wp2
  exact bodyPost_ret (v := .agg #[.int .i64 5, .int .i64 6]) (by simp [results, Try.results88, go_sem]) rfl ⟨rfl, (Below.refl _ _).alloc (Nat.le_refl _) _⟩

set_option maxRecDepth 100000 in
set_option maxHeartbeats 1000000 in
theorem place_32 (w : World) : Calls Try.prog 88 #[.int .i64 3, .int .i64 2] w (PlaceGives w 0 5) := by
  unfold PlaceGives
  have hx : ∀ W : World, (Instr.index 104 (.agg #[.int .i64 11, .int .i64 5, .int .i64 5, .int .i64 6, .int .i64 0, .int .i64 5]) (.int .i64 2)).run Try.prog W = .ok (.agg #[.int .i64 0, .int .i64 5]) W := fun W =>
    run_index_in 104 92 3 2 _ .i64 2 (by kernel_rfl) fieldT (by omega) (by omega)
  go_enter Try.func88, Try.ntmps88
  go_wp2
  exact bodyPost_ret (v := .agg #[.int .i64 0, .int .i64 5]) (by simp [results, Try.results88, go_sem]) rfl ⟨rfl, (Below.refl _ _).alloc (Nat.le_refl _) _⟩

set_option maxRecDepth 100000 in
set_option maxHeartbeats 1000000 in
theorem place_40 (w : World) : Calls Try.prog 88 #[.int .i64 4, .int .i64 0] w (PlaceGives w 0 10) := by
  unfold PlaceGives
  have hx : ∀ W : World, (Instr.index 105 (.agg #[.int .i64 0, .int .i64 10, .int .i64 10, .int .i64 10, .int .i64 20, .int .i64 10, .int .i64 30, .int .i64 2]) (.int .i64 0)).run Try.prog W = .ok (.agg #[.int .i64 0, .int .i64 10]) W := fun W =>
    run_index_in 105 92 4 2 _ .i64 0 (by kernel_rfl) fieldT (by omega) (by omega)
  go_enter Try.func88, Try.ntmps88
  go_wp2
  exact bodyPost_ret (v := .agg #[.int .i64 0, .int .i64 10]) (by simp [results, Try.results88, go_sem]) rfl ⟨rfl, (Below.refl _ _).alloc (Nat.le_refl _) _⟩

set_option maxRecDepth 100000 in
set_option maxHeartbeats 1000000 in
theorem place_41 (w : World) : Calls Try.prog 88 #[.int .i64 4, .int .i64 1] w (PlaceGives w 10 10) := by
  unfold PlaceGives
  have hx : ∀ W : World, (Instr.index 105 (.agg #[.int .i64 0, .int .i64 10, .int .i64 10, .int .i64 10, .int .i64 20, .int .i64 10, .int .i64 30, .int .i64 2]) (.int .i64 1)).run Try.prog W = .ok (.agg #[.int .i64 10, .int .i64 10]) W := fun W =>
    run_index_in 105 92 4 2 _ .i64 1 (by kernel_rfl) fieldT (by omega) (by omega)
  go_enter Try.func88, Try.ntmps88
  go_wp2
  exact bodyPost_ret (v := .agg #[.int .i64 10, .int .i64 10]) (by simp [results, Try.results88, go_sem]) rfl ⟨rfl, (Below.refl _ _).alloc (Nat.le_refl _) _⟩

set_option maxRecDepth 100000 in
set_option maxHeartbeats 1000000 in
theorem place_42 (w : World) : Calls Try.prog 88 #[.int .i64 4, .int .i64 2] w (PlaceGives w 20 10) := by
  unfold PlaceGives
  have hx : ∀ W : World, (Instr.index 105 (.agg #[.int .i64 0, .int .i64 10, .int .i64 10, .int .i64 10, .int .i64 20, .int .i64 10, .int .i64 30, .int .i64 2]) (.int .i64 2)).run Try.prog W = .ok (.agg #[.int .i64 20, .int .i64 10]) W := fun W =>
    run_index_in 105 92 4 2 _ .i64 2 (by kernel_rfl) fieldT (by omega) (by omega)
  go_enter Try.func88, Try.ntmps88
  go_wp2
  exact bodyPost_ret (v := .agg #[.int .i64 20, .int .i64 10]) (by simp [results, Try.results88, go_sem]) rfl ⟨rfl, (Below.refl _ _).alloc (Nat.le_refl _) _⟩

set_option maxRecDepth 100000 in
set_option maxHeartbeats 1000000 in
theorem place_43 (w : World) : Calls Try.prog 88 #[.int .i64 4, .int .i64 3] w (PlaceGives w 30 2) := by
  unfold PlaceGives
  have hx : ∀ W : World, (Instr.index 105 (.agg #[.int .i64 0, .int .i64 10, .int .i64 10, .int .i64 10, .int .i64 20, .int .i64 10, .int .i64 30, .int .i64 2]) (.int .i64 3)).run Try.prog W = .ok (.agg #[.int .i64 30, .int .i64 2]) W := fun W =>
    run_index_in 105 92 4 2 _ .i64 3 (by kernel_rfl) fieldT (by omega) (by omega)
  go_enter Try.func88, Try.ntmps88
  go_wp2
  exact bodyPost_ret (v := .agg #[.int .i64 30, .int .i64 2]) (by simp [results, Try.results88, go_sem]) rfl ⟨rfl, (Below.refl _ _).alloc (Nat.le_refl _) _⟩

theorem place_b (f : Int) (i : Nat) (w : World) (hf : f = 1 ∨ f = 2 ∨ f = 3 ∨ f = 4) (hi : i < ncm f) : Calls Try.prog 88 #[.int .i64 f, .int .i64 i] w (PlaceGives w (shf f i) (wdt f i)) := by
  rcases fmt_comp hf hi with ⟨rfl, rfl⟩ | ⟨rfl, h⟩ | ⟨rfl, rfl | rfl | rfl⟩ | ⟨rfl, rfl | rfl | rfl | rfl⟩
  · exact place_12 1 0 w (by omega) (by omega)
  · exact place_12 2 i w (by omega) (by omega)
  · exact place_30 w
  · exact place_31 w
  · exact place_32 w
  · exact place_40 w
  · exact place_41 w
  · exact place_42 w
  · exact place_43 w

end Go.Proofs.Ytcjlgfadjedgbaa

/- One component of a texel, written and read: package texel's putComponent and component. -/
namespace Go.Proofs.Ytcjlgfadjedgbaa
open Go.RowKit Go.Sort

theorem little_at (A : Option Addr) (n c : Nat) (l : List Int) (w : World) (R : Rd w w.heap.size .u8 A n l) (p m : Int) (q k : Nat) (ep : p = q) (em : m = k) (hn : n ≤ 9223372036854775807) (m1 : 1 ≤ k) (m4 : k ≤ 4) (hp : q + k ≤ n) :
    Calls Try.prog 89 #[.slice A n c, .int .i64 p, .int .i64 m] w fun e w' => e = .returned (.int .i64 (litv (part l q k))) ∧ Below w.heap.size w w' := by
  subst ep; subst em; exact little_yes A n c q k l w R hn m1 m4 hp

theorem put_at (A : Option Addr) (n c : Nat) (l : List Int) (v : Int) (w : World) (R : Rd w w.heap.size .u8 A n l) (p m : Int) (q k : Nat) (ep : p = q) (em : m = k) (hn : n ≤ 140737488355328) (m1 : 1 ≤ k) (m4 : k ≤ 4) (hp : q + k ≤ n) :
    Calls Try.prog 85 #[.slice A n c, .int .i64 p, .int .i64 m, .int .i64 v] w (GivesOwn w w.heap.size 5 .u8 (putL l q v k)) := by
  subst ep; subst em; exact putLittle_yes A n c q k l v w R hn m1 m4 hp

theorem thv_b (x : Int) (w : World) : Calls Try.prog 86 #[.agg #[.int .i64 5, .int .i64 10, .bool true], .int .i64 x] w fun e w' => e = .returned (.int .i64 (hv x)) ∧ Below w.heap.size w w' :=
  encode_yes 5 10 x true w (by omega) (by omega) (by omega) (by omega)

theorem tdv_b (p : Int) (w : World) (h0 : 0 ≤ p) (h1 : p < 65536) : Calls Try.prog 113 #[.agg #[.int .i64 5, .int .i64 10, .bool true], .int .i64 p] w fun e w' => e = .returned (.int .i64 (dv p)) ∧ Below w.heap.size w w' :=
  decode_yes 5 10 p true w (by omega) (by omega) (by omega) (by omega) h0 (by rw [show pw (5 + 10 + sbit true) = 65536 by decide]; exact h1)

set_option maxRecDepth 100000 in
theorem tput_half (f x0 x1 x2 x3 : Int) (i : Nat) (A : Option Addr) (n c : Nat) (w : World) (hf : f = 5 ∨ f = 6) (hi : i < ncm f) (R : Rd w w.heap.size .u8 A n (encK f x0 x1 x2 x3 i)) :
    Calls Try.prog 61 #[.int .i64 f, .slice A n c, .int .i64 i, .int .i64 (cmp x0 x1 x2 x3 i)] w (GivesRd w .u8 (encK f x0 x1 x2 x3 (i + 1))) := by
  have hn : n = nsz f := by rw [← R.len, encK_len]
  have hi2 : 2 * i + 2 ≤ n ∧ n ≤ 8 := by rw [hn]; rcases hf with rfl | rfl; (have hi : i < 1 := hi; show _ ≤ 2 ∧ 2 ≤ 8; omega); (have hi : i < 4 := hi; show _ ≤ 8 ∧ 8 ≤ 8; omega)
  have hq := encK_half (x0 := x0) (x1 := x1) (x2 := x2) (x3 := x3) hf hi
  have ch := fun W => of_q (ishalf_q f W)
  rw [decide_eq_true hf] at ch
  have ce := fun W => thv_b (cmp x0 x1 x2 x3 i) W
  obtain ⟨X, hX⟩ : ∃ X, cmp x0 x1 x2 x3 i = X := ⟨_, rfl⟩
  obtain ⟨h, hh⟩ : ∃ h, hv X = h := ⟨_, rfl⟩
  obtain ⟨L, hL⟩ : ∃ L, encK f x0 x1 x2 x3 i = L := ⟨_, rfl⟩
  obtain ⟨M, hM⟩ : ∃ M, encK f x0 x1 x2 x3 (i + 1) = M := ⟨_, rfl⟩
  rw [hX, hh] at ce
  rw [hX, hh, hL, hM] at hq
  rw [hL] at R
  rw [hX, hM]
  have cp := fun W (RW : Rd W W.heap.size .u8 A n L) => put_at A n c L h W RW (i * 2) 2 (2 * i) 2 (by omega) rfl (by omega) (by omega) (by omega) hi2.1
  rw [hq] at cp
  have CH := Lib.hid ch
  have CE := Lib.hid ce
  have CP := Lib.hid cp
  have K1 := R
  have BB : Below w.heap.size w w := Below.refl _ _
  obtain ⟨g1, g2⟩ := hi2
  have g3 : (i : Int) ≤ 3 := by omega
  clear ch ce cp hq hX hh hL hM R hf hi hn
  go_enter Try.func61, Try.ntmps61
  go_wp2_with (first
    | (go_at_call 84; (with_reducible refine (CH.out _).mono ?_); rintro _ _ ⟨rfl, B⟩; (replace BB := bon BB B; replace K1 := Rd.on K1 B))
    | (go_at_call 87; (with_reducible refine (half_b _).mono ?_); rintro _ _ ⟨rfl, B⟩; (replace BB := bon BB B; replace K1 := Rd.on K1 B))
    | (go_at_call 86; (with_reducible refine (CE.out _).mono ?_); rintro _ _ ⟨rfl, B⟩; (replace BB := bon BB B; replace K1 := Rd.on K1 B))
    | (go_at_call 85; (with_reducible refine (CP.out _ K1).mono ?_); rintro _ W5 ⟨A5, n5, c5, rfl, own5, B5⟩))
  go_ret
  exact ⟨A5, n5, c5, rfl, own5.room, own5.rd, BB.trans (B5.mono BB.size)⟩

set_option maxRecDepth 100000 in
theorem tput_int (f x0 x1 x2 x3 : Int) (i : Nat) (A : Option Addr) (n c : Nat) (w : World) (hf : f = 1 ∨ f = 2 ∨ f = 3 ∨ f = 4) (hi : i < ncm f) (R : Rd w w.heap.size .u8 A n (encK f x0 x1 x2 x3 i)) :
    Calls Try.prog 61 #[.int .i64 f, .slice A n c, .int .i64 i, .int .i64 (cmp x0 x1 x2 x3 i)] w (GivesRd w .u8 (encK f x0 x1 x2 x3 (i + 1))) := by
  have hn : n = nsz f := by rw [← R.len, encK_len]
  have hs : 1 ≤ n ∧ n ≤ 4 := by rw [hn]; rcases hf with rfl | rfl | rfl | rfl <;> decide
  obtain ⟨⟨b0, b1⟩, ⟨s0, s1⟩, ⟨a0, a1⟩, ⟨y0, y1⟩, ho⟩ := acc_step (x0 := x0) (x1 := x1) (x2 := x2) (x3 := x3) hf hi
  obtain ⟨ev, ep⟩ := encK_int (x0 := x0) (x1 := x1) (x2 := x2) (x3 := x3) hf hi
  have ch := fun W => of_q (ishalf_q f W)
  rw [decide_eq_false (by omega)] at ch
  have cl := fun W => place_b f i W hf hi
  unfold PlaceGives at cl
  have cu := fun W => tunorm_b (cmp x0 x1 x2 x3 i) (wdt f i) W
  have hz := pw_i64_mul (unv (cmp x0 x1 x2 x3 i) (wdt f i)) (shf f i) (by omega) (by omega)
  obtain ⟨sh, hsh⟩ : ∃ s, shf f i = s := ⟨_, rfl⟩
  obtain ⟨wd, hwd⟩ : ∃ b, wdt f i = b := ⟨_, rfl⟩
  obtain ⟨X, hX⟩ : ∃ X, cmp x0 x1 x2 x3 i = X := ⟨_, rfl⟩
  obtain ⟨u, hu⟩ : ∃ u, unv X wd = u := ⟨_, rfl⟩
  obtain ⟨y, hy⟩ : ∃ y, u * pw sh = y := ⟨_, rfl⟩
  obtain ⟨acc, hacc⟩ : ∃ a, accK f x0 x1 x2 x3 i = a := ⟨_, rfl⟩
  obtain ⟨acd, hacd⟩ : ∃ a, accK f x0 x1 x2 x3 (i + 1) = a := ⟨_, rfl⟩
  obtain ⟨L, hL⟩ : ∃ L, encK f x0 x1 x2 x3 i = L := ⟨_, rfl⟩
  obtain ⟨M, hM⟩ : ∃ M, encK f x0 x1 x2 x3 (i + 1) = M := ⟨_, rfl⟩
  rw [hsh, hwd] at cl
  rw [hX, hwd, hu] at cu hz
  rw [hsh, hy] at hz
  rw [hX, hwd, hu, hsh, hy, hacc, hacd] at ho
  rw [hL, hacc] at ev
  rw [hL, hacd, hM, ← hn] at ep
  rw [hsh] at s0 s1
  rw [hL] at R
  rw [hX, hM]
  have hLn := R.len
  have ce := fun W (RW : Rd W W.heap.size .u8 A n L) => little_at A n c L W RW 0 n 0 n rfl rfl (by omega) (by omega) (by omega) (by omega)
  rw [part_whole L n hLn, ev] at ce
  have cp := fun W (RW : Rd W W.heap.size .u8 A n L) => put_at A n c L acd W RW 0 n 0 n rfl rfl (by omega) (by omega) (by omega) (by omega)
  rw [ep] at cp
  have CH := Lib.hid ch
  have CL := Lib.hid cl
  have CU := Lib.hid cu
  have CE := Lib.hid ce
  have CP := Lib.hid cp
  have K1 := R
  have BB : Below w.heap.size w w := Below.refl _ _
  clear ch cl cu ce cp hX hu hy hacc hacd hL hM R hf hi hn hsh hwd ev ep a0 a1 y0 y1 b0 b1 hLn
  go_enter Try.func61, Try.ntmps61
  go_wp2_with (first
    | (go_at_call 84; (with_reducible refine (CH.out _).mono ?_); rintro _ _ ⟨rfl, B⟩; replace BB := bon BB B; replace K1 := K1.on B)
    | (go_at_call 88; (with_reducible refine (CL.out _).mono ?_); rintro _ W2 ⟨rfl, B⟩; replace BB := bon BB B; replace K1 := K1.on B))
  have bb := box_below W2 #[.int .i64 sh, .int .i64 wd] 92
  refine letter (S := fun V => V.cell? ⟨W2.heap.size, 0, none⟩ = some (.int .i64 sh) ∧ V.cell? ⟨W2.heap.size, 1, none⟩ = some (.int .i64 wd) ∧ Rd V V.heap.size .u8 A n L ∧ Below w.heap.size w V) ?_ ⟨by simp, by simp, K1.on bb, bon BB bb⟩
  clear bb BB K1 B
  rintro V ⟨c0, c1, K1, BB⟩
  have k_c0 := cell_regrown c0
  have k_c1 := cell_regrown c1
  refine wp_region_tailK (n := 15) (by kernel_rfl) (by kernel_rfl) ?_
  simp only [List.take_succ_cons, List.take_zero, List.drop_succ_cons, List.drop_zero]
  repeat (first | go_big_quiet_step ((first | (go_at_call 89; exact Calls.regrown_of (CE.out _ (K1.on (below_regrown _ _ _)))) | (go_at_call 90; exact Calls.regrown_of (CU.out _)))) | quiet_step ((first | (go_at_call 89; exact Calls.regrown_of (CE.out _ (K1.on (below_regrown _ _ _)))) | (go_at_call 90; exact Calls.regrown_of (CU.out _)))))
  refine wpQuiet_nil ?_
  intro W hw'
  have B := below_regrown' hw'
  clear hw' k_c0 k_c1
  replace BB := bon BB B
  replace K1 := Rd.on K1 B
  replace c0 := cell_below B c0
  replace c1 := cell_below B c1
  go_wp2_with (go_at_call 85; (with_reducible refine (CP.out _ K1).mono ?_); rintro _ W5 ⟨A5, n5, c5, rfl, own5, B5⟩)
  go_ret
  exact ⟨A5, n5, c5, rfl, own5.room, own5.rd, BB.trans (B5.mono BB.size)⟩

/-! ### component -/

set_option maxRecDepth 100000 in
theorem tcomp_half (f : Int) (l : List Int) (i : Nat) (A : Option Addr) (n c : Nat) (w : World) (hf : f = 5 ∨ f = 6) (hi : i < ncm f) (hl : n = nsz f) (R : Rd w w.heap.size .u8 A n l) :
    Calls Try.prog 101 #[.int .i64 f, .slice A n c, .int .i64 i] w fun e w' => e = .returned (.int .i64 (dec f l i)) ∧ Below w.heap.size w w' := by
  have hi2 : 2 * i + 2 ≤ n ∧ n ≤ 8 := by rw [hl]; rcases hf with rfl | rfl; (have hi : i < 1 := hi; show _ ≤ 2 ∧ 2 ≤ 8; omega); (have hi : i < 4 := hi; show _ ≤ 8 ∧ 8 ≤ 8; omega)
  have hd := dec_halfK (l := l) hf (by rw [R.len, hl]) hi
  have hr := litv_rng (part l (2 * i) 2) (part_rng (rd_rng255 R))
  rw [part_len (by rw [R.len]; omega)] at hr
  have ch := fun W => of_q (ishalf_q f W)
  rw [decide_eq_true hf] at ch
  have ce := fun W (RW : Rd W W.heap.size .u8 A n l) => little_at A n c l W RW (i * 2) 2 (2 * i) 2 (by omega) rfl (by omega) (by omega) (by omega) hi2.1
  obtain ⟨p, hp⟩ : ∃ p, litv (part l (2 * i) 2) = p := ⟨_, rfl⟩
  rw [hp] at hr hd ce
  have cd := fun W => tdv_b p W hr.1 hr.2
  obtain ⟨d, hdd⟩ : ∃ d, dv p = d := ⟨_, rfl⟩
  rw [hdd] at cd hd
  rw [hd]
  have CH := Lib.hid ch
  have CE := Lib.hid ce
  have CD := Lib.hid cd
  have K1 := R
  have BB : Below w.heap.size w w := Below.refl _ _
  obtain ⟨g1, g2⟩ := hi2
  have g3 : (i : Int) ≤ 3 := by omega
  clear ch ce cd hd hdd hp hr R hf hi hl
  go_enter Try.func101, Try.ntmps101
  go_wp2_with (first
    | (go_at_call 84; (with_reducible refine (CH.out _).mono ?_); rintro _ _ ⟨rfl, B⟩; (replace BB := bon BB B; replace K1 := Rd.on K1 B))
    | (go_at_call 87; (with_reducible refine (half_b _).mono ?_); rintro _ _ ⟨rfl, B⟩; (replace BB := bon BB B; replace K1 := Rd.on K1 B))
    | (go_at_call 89; (with_reducible refine (CE.out _ K1).mono ?_); rintro _ _ ⟨rfl, B⟩; (replace BB := bon BB B; replace K1 := Rd.on K1 B))
    | (go_at_call 113; (with_reducible refine (CD.out _).mono ?_); rintro _ _ ⟨rfl, B⟩; (replace BB := bon BB B; replace K1 := Rd.on K1 B)))
  go_ret
  exact ⟨rfl, BB⟩

set_option maxRecDepth 100000 in
theorem tcomp_int (f : Int) (l : List Int) (i : Nat) (A : Option Addr) (n c : Nat) (w : World) (hf : f = 1 ∨ f = 2 ∨ f = 3 ∨ f = 4) (hi : i < ncm f) (hl : n = nsz f) (R : Rd w w.heap.size .u8 A n l) :
    Calls Try.prog 101 #[.int .i64 f, .slice A n c, .int .i64 i] w fun e w' => e = .returned (.int .i64 (dec f l i)) ∧ Below w.heap.size w w' := by
  have hs : 1 ≤ n ∧ n ≤ 4 := by rw [hl]; rcases hf with rfl | rfl | rfl | rfl <;> decide
  have hll : l.length = nsz f := by rw [R.len, hl]
  obtain ⟨⟨b0, b1⟩, ⟨s0, s1⟩, _⟩ := acc_step (x0 := 0) (x1 := 0) (x2 := 0) (x3 := 0) hf hi
  have hd := dec_step hf hll (rd_rng255 R) hi
  have hN := litv_rng l (rd_rng255 R)
  have h4 := pow256_le (show l.length ≤ 4 by rw [R.len]; omega)
  have e4 : (256 : Int) ^ 4 = 4294967296 := by decide
  have ch := fun W => of_q (ishalf_q f W)
  rw [decide_eq_false (by omega)] at ch
  have cl := fun W => place_b f i W hf hi
  unfold PlaceGives at cl
  have hp2 := pw_16b ⟨b0, b1⟩
  have hpw := pw_i64 (wdt f i) (by omega)
  have cm := fun W => of_q (maxunorm_q (wdt f i) (pw (wdt f i)) W b0 b1 hpw hp2.1 hp2.2)
  have ha := and_pw (litv l / pw (shf f i)) (wdt f i) (by omega) (by omega)
  have cf := fun W => tfromu_b (litv l / pw (shf f i) % pw (wdt f i)) (wdt f i) W
  rw [← hd] at cf
  have ce := fun W (RW : Rd W W.heap.size .u8 A n l) => little_at A n c l W RW 0 n 0 n rfl rfl (by omega) (by omega) (by omega) (by omega)
  rw [part_whole l n R.len] at ce
  obtain ⟨sh, hsh⟩ : ∃ s, shf f i = s := ⟨_, rfl⟩
  obtain ⟨wd, hwd⟩ : ∃ b, wdt f i = b := ⟨_, rfl⟩
  obtain ⟨D, hD⟩ : ∃ D, dec f l i = D := ⟨_, rfl⟩
  obtain ⟨N, hN'⟩ : ∃ N, litv l = N := ⟨_, rfl⟩
  rw [hsh, hwd] at cl
  rw [hwd] at cm b0 b1
  rw [hN', hsh, hwd, hD] at cf
  rw [hN', hsh, hwd] at ha
  rw [hN'] at ce hN
  rw [hsh] at s0 s1
  rw [hD]
  have hq : N / 2 ^ sh.toNat = N / pw sh := rfl
  obtain ⟨q, hqq⟩ : ∃ q, N / pw sh = q := ⟨_, rfl⟩
  obtain ⟨m, hm⟩ : ∃ m, pw wd = m := ⟨_, rfl⟩
  rw [hqq] at ha cf hq
  rw [hm] at ha cf cm
  obtain ⟨r, hr⟩ : ∃ r, q % m = r := ⟨_, rfl⟩
  rw [hr] at ha cf
  have CH := Lib.hid ch
  have CL := Lib.hid cl
  have CM := Lib.hid cm
  have CE := Lib.hid ce
  have CF := Lib.hid cf
  have K1 := R
  have BB : Below w.heap.size w w := Below.refl _ _
  clear ch cl cm ce cf hd hll hN h4 e4 hp2 hpw R hf hi hl hsh hwd hD hN' hqq hm hr b0 b1
  go_enter Try.func101, Try.ntmps101
  go_wp2_with (first
    | (go_at_call 84; (with_reducible refine (CH.out _).mono ?_); rintro _ _ ⟨rfl, B⟩; replace BB := bon BB B; replace K1 := K1.on B)
    | (go_at_call 88; (with_reducible refine (CL.out _).mono ?_); rintro _ W2 ⟨rfl, B⟩; replace BB := bon BB B; replace K1 := K1.on B))
  have bb := box_below W2 #[.int .i64 sh, .int .i64 wd] 92
  refine letter (S := fun V => V.cell? ⟨W2.heap.size, 0, none⟩ = some (.int .i64 sh) ∧ V.cell? ⟨W2.heap.size, 1, none⟩ = some (.int .i64 wd) ∧ Rd V V.heap.size .u8 A n l ∧ Below w.heap.size w V) ?_ ⟨by simp, by simp, K1.on bb, bon BB bb⟩
  clear bb BB K1 B
  rintro V ⟨c0, c1, K1, BB⟩
  have k_c0 := cell_regrown c0
  have k_c1 := cell_regrown c1
  refine wp_region_quiet_below (by kernel_rfl) (by kernel_rfl) ?_
  repeat (first | go_big_quiet_step ((first | (go_at_call 89; exact Calls.regrown_of (CE.out _ (K1.on (below_regrown _ _ _)))) | (go_at_call 110; exact Calls.regrown_of (CM.out _)) | (go_at_call 114; exact Calls.regrown_of (CF.out _)))) | quiet_step ((first | (go_at_call 89; exact Calls.regrown_of (CE.out _ (K1.on (below_regrown _ _ _)))) | (go_at_call 110; exact Calls.regrown_of (CM.out _)) | (go_at_call 114; exact Calls.regrown_of (CF.out _)))))
  refine wpQuiet_nil ?_
  intro W hw'
  have B := below_regrown' hw'
  clear hw' k_c0 k_c1
  replace BB := bon BB B
  replace K1 := Rd.on K1 B
  replace c0 := cell_below B c0
  replace c1 := cell_below B c1
  go_wp2
  go_ret
  exact ⟨rfl, BB⟩

end Go.Proofs.Ytcjlgfadjedgbaa

/- What package texel's Encode, Decode and Quantize return. -/
namespace Go.Proofs.Ytcjlgfadjedgbaa
open Go.RowKit Go.Sort

theorem iB : (Try.prog.info? 5).map (fun i => (i.zero, i.size, i.bytes)) = some (some (.int .u8 0), 1, 1) := by kernel_rfl

/-- A component written, whatever the format. -/
theorem tput_b (f x0 x1 x2 x3 : Int) (i : Nat) (A : Option Addr) (n c : Nat) (w : World) (hz : nsz f ≠ 0) (hi : i < ncm f) (R : Rd w w.heap.size .u8 A n (encK f x0 x1 x2 x3 i)) :
    Calls Try.prog 61 #[.int .i64 f, .slice A n c, .int .i64 i, .int .i64 (cmp x0 x1 x2 x3 i)] w (GivesRd w .u8 (encK f x0 x1 x2 x3 (i + 1))) := by
  rcases fmt_cases f with h | h | h | h | h | h | h
  · exact tput_int f x0 x1 x2 x3 i A n c w (by omega) hi R
  · exact tput_int f x0 x1 x2 x3 i A n c w (by omega) hi R
  · exact tput_int f x0 x1 x2 x3 i A n c w (by omega) hi R
  · exact tput_int f x0 x1 x2 x3 i A n c w (by omega) hi R
  · exact tput_half f x0 x1 x2 x3 i A n c w (by omega) hi R
  · exact tput_half f x0 x1 x2 x3 i A n c w (by omega) hi R
  · exact absurd (nsz_none h) hz

theorem tcomp_b (f : Int) (l : List Int) (i : Nat) (A : Option Addr) (n c : Nat) (w : World) (hz : nsz f ≠ 0) (hi : i < ncm f) (hl : n = nsz f) (R : Rd w w.heap.size .u8 A n l) :
    Calls Try.prog 101 #[.int .i64 f, .slice A n c, .int .i64 i] w fun e w' => e = .returned (.int .i64 (dec f l i)) ∧ Below w.heap.size w w' := by
  rcases fmt_cases f with h | h | h | h | h | h | h
  · exact tcomp_int f l i A n c w (by omega) hi hl R
  · exact tcomp_int f l i A n c w (by omega) hi hl R
  · exact tcomp_int f l i A n c w (by omega) hi hl R
  · exact tcomp_int f l i A n c w (by omega) hi hl R
  · exact tcomp_half f l i A n c w (by omega) hi hl R
  · exact tcomp_half f l i A n c w (by omega) hi hl R
  · exact absurd (nsz_none h) hz

theorem ncm_le (f : Int) : ncm f ≤ 4 := by
  rcases fmt_cases f with rfl | rfl | rfl | rfl | rfl | rfl | h
  all_goals first | decide | (rw [ncm_none h]; omega)

theorem VBox.at_ {W : World} {b : Nat} {x0 x1 x2 x3 : Int} (h : VBox W b x0 x1 x2 x3) {k : Nat} (hk : k < 4) : W.cell? ⟨b, k, none⟩ = some (.int .i64 (cmp x0 x1 x2 x3 k)) := by
  rcases (show k = 0 ∨ k = 1 ∨ k = 2 ∨ k = 3 by omega) with rfl | rfl | rfl | rfl
  · exact h.1.1
  · exact h.1.2.1
  · exact h.1.2.2.1
  · exact h.1.2.2.2

set_option maxRecDepth 100000 in
set_option maxHeartbeats 1000000 in
theorem tencode_b (f x0 x1 x2 x3 : Int) (w : World) : Calls Try.prog 38 #[.int .i64 f, .agg #[.int .i64 x0, .int .i64 x1, .int .i64 x2, .int .i64 x3]] w (GivesRd w .u8 (enc f x0 x1 x2 x3)) := by
  obtain ⟨a0, a1, a2, a3, BB⟩ := box4 w (.int .i64 x0) (.int .i64 x1) (.int .i64 x2) (.int .i64 x3) 44
  have cv := fun W => tvalid_q f W
  by_cases hz : nsz f = 0
  · rw [show isf f = false by unfold isf; rw [hz]; rfl] at cv
    have CV := Lib.hid cv
    rw [enc_none hz]
    clear cv hz
    go_enter Try.func38, Try.ntmps38
    go_wp2_with (go_at_call 57; (with_reducible refine (CV.out _).mono ?_); rintro _ _ ⟨rfl, rfl⟩)
    go_ret
    exact ⟨none, 0, 0, rfl, Nat.le_refl _, Rd.nil _ _ _ _, BB⟩
  · rw [show isf f = true by unfold isf; simp [hz]] at cv
    have D := VBox.made (w.alloc (.cells #[.int .i64 x0, .int .i64 x1, .int .i64 x2, .int .i64 x3] 44)) x0 x1 x2 x3 72
    have BD := bon BB (box_below (w.alloc (.cells #[.int .i64 x0, .int .i64 x1, .int .i64 x2, .int .i64 x3] 44)) #[.int .i64 x0, .int .i64 x1, .int .i64 x2, .int .i64 x3] 72)
    have cp := fun W i A n c hi (R : Rd W W.heap.size .u8 A n (encK f x0 x1 x2 x3 i)) => tput_b f x0 x1 x2 x3 i A n c W hz hi R
    have e0 := encK_zero (f := f) (x0 := x0) (x1 := x1) (x2 := x2) (x3 := x3)
    have e1 := encK_all (x0 := x0) (x1 := x1) (x2 := x2) (x3 := x3) hz
    have cs := fun W => tsize_q f W
    have cc := fun W => tcomps_q f W
    have hs := nsz_le f
    have hm := ncm_le f
    obtain ⟨s, hse⟩ : ∃ s, nsz f = s := ⟨_, rfl⟩
    obtain ⟨m, hme⟩ : ∃ m, ncm f = m := ⟨_, rfl⟩
    obtain ⟨E, hE⟩ : ∃ E, encK f x0 x1 x2 x3 = E := ⟨_, rfl⟩
    obtain ⟨X, hX⟩ : ∃ X, cmp x0 x1 x2 x3 = X := ⟨_, rfl⟩
    rw [hse] at e0 cs hs
    rw [hme] at e1 cc hm
    rw [← e1]
    rw [hE] at e0 ⊢
    simp only [hE, hX, hme] at cp
    have CV := Lib.hid cv
    have CP := Lib.hid cp
    have CS := Lib.hid cs
    have CC := Lib.hid cc
    have E0 := Lib.hid e0
    have HX := Lib.hid hX
    clear cv cp cs cc e0 e1 hE hX hse hme hz
    go_enter Try.func38, Try.ntmps38
    go_wp2_with (first
      | (go_at_call 57; (with_reducible refine (CV.out _).mono ?_); rintro _ _ ⟨rfl, rfl⟩)
      | (go_at_call 37; (with_reducible refine (CS.out _).mono ?_); rintro _ _ ⟨rfl, rfl⟩)
      | (go_at_call 60; (with_reducible refine (CC.out _).mono ?_); rintro _ _ ⟨rfl, rfl⟩)
      | (refine wpList_makeV _ rfl _ _ _ rfl Try.underlying23 iB rfl .i64 .i64 s rfl rfl (by omega) (by simp only [maxLen]; omega) w.heap.size BD.size ?_; intro b W1 own1 B1 hb))
    have D1 := D.on B1
    rw [show (w.alloc (.cells #[.int .i64 x0, .int .i64 x1, .int .i64 x2, .int .i64 x3] 44)).heap.size = w.heap.size + 1 by simp] at D1
    have BB1 := bon BD B1
    have own2 : Rd W1 W1.heap.size .u8 (some ⟨b, 0, none⟩) s (E 0) := by
      rw [E0.out]
      exact (OwnV.ints (l := List.replicate s 0) (by rw [List.map_replicate]; exact own1) (by intro x hx; rw [List.eq_of_mem_replicate hx, u8_min, u8_max]; omega)).rd
    have OW := Lib.hid own2
    have DD := Lib.hid D1
    clear own1 own2 D D1 BD BB a0 a1 a2 a3 hb
    go_loopw [6, 25] (fun t i wr => ∃ (k n c : Nat) (A : Option Addr), k ≤ m ∧ i = .int .i64 k ∧ t = .slice A n c ∧ n ≤ c ∧ Rd wr wr.heap.size .u8 A n (E k) ∧ VBox wr (w.heap.size + 1) x0 x1 x2 x3 ∧ Below w.heap.size w wr) (fun _ i _ => m - (intOf i).toNat)
    case atStart => exact ⟨0, s, s, _, by omega, rfl, rfl, Nat.le_refl _, OW.out, DD.out, BB1⟩
    case round =>
      clear OW DD BB1 B1
      obtain ⟨k, n, c, A, hk, rfl, rfl, hnc, R, V, BB2⟩ := hrel
      by_cases hlt : k < m
      · have ck := V.at_ (show k < 4 by omega)
        rw [HX.out] at ck
        go_wp2_with (go_at_call 61; (with_reducible refine (CP.out _ _ _ _ _ hlt R).mono ?_); rintro _ W2 ⟨A2, n2, c2, rfl, hc2, R2, B2⟩)
        go_roundw
        case rel => exact ⟨k + 1, n2, c2, A2, by omega, by go_num, rfl, hc2, R2, V.on B2, bon BB2 B2⟩
        case measure => simp [intOf]; omega
      · obtain rfl : k = m := by omega
        go_wp2
        go_ret
        exact ⟨A, n, c, rfl, hnc, R, BB2⟩

/-! ### Decode -/

theorem VBox.put {W : World} {b : Nat} {x0 x1 x2 x3 : Int} (h : VBox W b x0 x1 x2 x3) {k : Nat} (_hk : k < 4) (v : Int) :
    VBox (W.setCell ⟨b, k, none⟩ (.int .i64 v)) b (if k = 0 then v else x0) (if k = 1 then v else x1) (if k = 2 then v else x2) (if k = 3 then v else x3) := by
  have key : ∀ (j : Nat) (y : Int), W.cell? ⟨b, j, none⟩ = some (.int .i64 y) → (W.setCell ⟨b, k, none⟩ (.int .i64 v)).cell? ⟨b, j, none⟩ = some (.int .i64 (if k = j then v else y)) := by
    intro j y hj
    by_cases e : k = j
    · subst e
      rw [if_pos rfl]
      exact World.cell?_setCell_same _ _ _ hj
    · rw [if_neg e]
      exact (World.cell?_setCell_other W ⟨b, k, none⟩ ⟨b, j, none⟩ _ (fun he => e (by injection he))).trans hj
  exact ⟨⟨key 0 _ h.1.1, key 1 _ h.1.2.1, key 2 _ h.1.2.2.1, key 3 _ h.1.2.2.2⟩, fun i => by rw [World.frozen?_setCell]; exact h.2 i⟩

theorem VBox.far {W : World} {b c : Nat} {x0 x1 x2 x3 : Int} (h : VBox W b x0 x1 x2 x3) (hc : c ≠ b) (k : Nat) (v : Value) : VBox (W.setCell ⟨c, k, none⟩ v) b x0 x1 x2 x3 :=
  ⟨⟨by rw [World.cell?_setCell_far _ _ _ _ hc]; exact h.1.1, by rw [World.cell?_setCell_far _ _ _ _ hc]; exact h.1.2.1, by rw [World.cell?_setCell_far _ _ _ _ hc]; exact h.1.2.2.1, by rw [World.cell?_setCell_far _ _ _ _ hc]; exact h.1.2.2.2⟩,
    fun i => by rw [World.frozen?_setCell]; exact h.2 i⟩

theorem decK_put {f : Int} {l : List Int} {k j : Nat} : (if k = j then dec f l k else decK f l k j) = decK f l (k + 1) j := by
  unfold decK
  by_cases h : k = j
  · subst h; rw [if_pos rfl, if_pos (by omega)]
  · rw [if_neg h]
    by_cases h2 : j < k
    · rw [if_pos h2, if_pos (by omega)]
    · rw [if_neg h2, if_neg (show ¬ j < k + 1 by omega)]

set_option maxRecDepth 100000 in
theorem tdecode_none (f : Int) (A : Option Addr) (n c : Nat) (l : List Int) (w : World) (hl : l.length = n) (h : nsz f = 0 ∨ n ≠ nsz f) :
    Calls Try.prog 79 #[.int .i64 f, .slice A n c] w (GivesV w (dec f l)) := by
  have B0 := box_below w #[.int .i64 0, .int .i64 0, .int .i64 0, .int .i64 0] 44
  unfold GivesV
  rw [dec_none (by rw [hl]; exact h), dec_none (by rw [hl]; exact h), dec_none (by rw [hl]; exact h), dec_none (by rw [hl]; exact h)]
  have cv := fun W => tvalid_q f W
  have cs := fun W => tsize_q f W
  rcases h with h | h
  · rw [show isf f = false by unfold isf; rw [h]; rfl] at cv
    have CV := Lib.hid cv
    clear cv cs h
    go_enter Try.func79, Try.ntmps79
    go_wp2_with (go_at_call 57; (with_reducible refine (CV.out _).mono ?_); rintro _ _ ⟨rfl, rfl⟩)
    exact bodyPost_ret (v := .agg #[.int .i64 0, .int .i64 0, .int .i64 0, .int .i64 0]) (by simp [results, Try.results79, go_sem]) rfl ⟨rfl, B0⟩
  · by_cases hz : nsz f = 0
    · rw [show isf f = false by unfold isf; rw [hz]; rfl] at cv
      have CV := Lib.hid cv
      clear cv cs h
      go_enter Try.func79, Try.ntmps79
      go_wp2_with (go_at_call 57; (with_reducible refine (CV.out _).mono ?_); rintro _ _ ⟨rfl, rfl⟩)
      exact bodyPost_ret (v := .agg #[.int .i64 0, .int .i64 0, .int .i64 0, .int .i64 0]) (by simp [results, Try.results79, go_sem]) rfl ⟨rfl, B0⟩
    · rw [show isf f = true by unfold isf; simp [hz]] at cv
      obtain ⟨s, hs⟩ : ∃ s, nsz f = s := ⟨_, rfl⟩
      rw [hs] at cs h
      have CV := Lib.hid cv
      have CS := Lib.hid cs
      have hne : ((n : Int) != (s : Int)) = true := by simp; omega
      clear cv cs h hz hs
      go_enter Try.func79, Try.ntmps79
      go_wp2_with (first
        | (go_at_call 57; (with_reducible refine (CV.out _).mono ?_); rintro _ _ ⟨rfl, rfl⟩)
        | (go_at_call 37; (with_reducible refine (CS.out _).mono ?_); rintro _ _ ⟨rfl, rfl⟩))
      exact bodyPost_ret (v := .agg #[.int .i64 0, .int .i64 0, .int .i64 0, .int .i64 0]) (by simp [results, Try.results79, go_sem]) rfl ⟨rfl, B0⟩

set_option maxRecDepth 100000 in
set_option maxHeartbeats 1000000 in
theorem tdecode_b (f : Int) (A : Option Addr) (n c : Nat) (l : List Int) (w : World) (R : Rd w w.heap.size .u8 A n l) (_hc : n ≤ c) (_hn : n ≤ 9223372036854775807) :
    Calls Try.prog 79 #[.int .i64 f, .slice A n c] w (GivesV w (dec f l)) := by
  by_cases hno : nsz f = 0 ∨ n ≠ nsz f
  · exact tdecode_none f A n c l w R.len hno
  · have hz : nsz f ≠ 0 := fun h => hno (.inl h)
    have hns : n = nsz f := by omega
    have cv := fun W => tvalid_q f W
    rw [show isf f = true by unfold isf; simp [hz]] at cv
    have D4 := VBox.made w 0 0 0 0 44
    have B4 := box_below w #[.int .i64 0, .int .i64 0, .int .i64 0, .int .i64 0] 44
    have R4 := R.below B4
    have z1 : (w.alloc (.cells #[.int .i64 0, .int .i64 0, .int .i64 0, .int .i64 0] 44)).heap.size = w.heap.size + 1 := by simp
    have D5 := VBox.made (w.alloc (.cells #[.int .i64 0, .int .i64 0, .int .i64 0, .int .i64 0] 44)) 0 0 0 65536 72
    have B5 := box_below (w.alloc (.cells #[.int .i64 0, .int .i64 0, .int .i64 0, .int .i64 0] 44)) #[.int .i64 0, .int .i64 0, .int .i64 0, .int .i64 65536] 72
    have R5 := R4.below (B5.mono B4.size)
    have D45 := D4.on B5
    have BB := bon B4 B5
    rw [z1] at D5
    have cp := fun W i hi (RW : Rd W W.heap.size .u8 A n l) => tcomp_b f l i A n c W hz hi hns RW
    have e1 : ∀ j, j < 4 → decK f l (ncm f) j = dec f l j := fun j hj => decK_all hz (by rw [R.len, hns]) hj
    have cs := fun W => tsize_q f W
    have cc := fun W => tcomps_q f W
    rw [← hns] at cs
    have hm := ncm_le f
    obtain ⟨m, hme⟩ : ∃ m, ncm f = m := ⟨_, rfl⟩
    rw [hme] at e1 cc hm
    unfold GivesV
    rw [← e1 0 (by omega), ← e1 1 (by omega), ← e1 2 (by omega), ← e1 3 (by omega)]
    have hput := fun k j => decK_put (f := f) (l := l) (k := k) (j := j)
    have h00 : decK f l 0 0 = 0 ∧ decK f l 0 1 = 0 ∧ decK f l 0 2 = 0 ∧ decK f l 0 3 = 65536 := ⟨rfl, rfl, rfl, rfl⟩
    obtain ⟨E, hE⟩ : ∃ E, decK f l = E := ⟨_, rfl⟩
    obtain ⟨d, hd⟩ : ∃ d, dec f l = d := ⟨_, rfl⟩
    simp only [hE, hd, hme] at cp hput h00 ⊢
    obtain ⟨h0, h1, h2, h3⟩ := h00
    have DD : Hid (VBox ((w.alloc (.cells #[.int .i64 0, .int .i64 0, .int .i64 0, .int .i64 0] 44)).alloc (.cells #[.int .i64 0, .int .i64 0, .int .i64 0, .int .i64 65536] 72)) (w.heap.size + 1) (E 0 0) (E 0 1) (E 0 2) (E 0 3)) := Lib.hid (by rw [h0, h1, h2, h3]; exact D5)
    have HP := Lib.hid hput
    have CV := Lib.hid cv
    have CP := Lib.hid cp
    have CS := Lib.hid cs
    have CC := Lib.hid cc
    have RR := Lib.hid R5
    have DV := Lib.hid D45
    clear cv cp cs cc e1 hE hd hme hz hns hno h0 h1 h2 h3 D5 D4 D45 B4 B5 R R4 R5 hput z1
    go_enter Try.func79, Try.ntmps79
    go_wp2_with (first
      | (go_at_call 57; (with_reducible refine (CV.out _).mono ?_); rintro _ _ ⟨rfl, rfl⟩)
      | (go_at_call 37; (with_reducible refine (CS.out _).mono ?_); rintro _ _ ⟨rfl, rfl⟩)
      | (go_at_call 60; (with_reducible refine (CC.out _).mono ?_); rintro _ _ ⟨rfl, rfl⟩))
    go_loopw [21] (fun i wr => ∃ k : Nat, k ≤ m ∧ i = .int .i64 k ∧ Rd wr w.heap.size .u8 A n l ∧ VBox wr (w.heap.size + 1) (E k 0) (E k 1) (E k 2) (E k 3) ∧ VBox wr w.heap.size 0 0 0 0 ∧ Below w.heap.size w wr) (fun i _ => m - (intOf i).toNat)
    case atStart => exact ⟨0, by omega, rfl, RR.out, DD.out, DV.out, BB⟩
    case round =>
      clear RR DD DV BB
      obtain ⟨k, hk, rfl, R, V, V4, BB⟩ := hrel
      by_cases hlt : k < m
      · go_wp2_with (go_at_call 101; (with_reducible refine (CP.out _ _ hlt (R.more BB.size)).mono ?_); rintro _ W2 ⟨rfl, B2⟩; replace V := V.on B2; replace V4 := V4.on B2; replace R := R.below (B2.mono BB.size); replace BB := bon BB B2; have ck := V.at_ (show k < 4 by omega); have fk := V.2 k)
        have VP := V.put (show k < 4 by omega) (d k)
        rw [HP.out, HP.out, HP.out, HP.out] at VP
        go_roundw
        case rel =>
          have BS : Below w.heap.size W2 (W2.setCell ⟨w.heap.size + 1, k, none⟩ (.int .i64 (d k))) := (Below.refl _ _).setCell (Nat.le_succ w.heap.size) _
          exact ⟨k + 1, by omega, by go_num, R.below BS, VP, V4.far (Nat.succ_ne_self w.heap.size) _ _, BB.trans BS⟩
        case measure => simp [intOf]; omega
      · obtain rfl : k = m := by omega
        obtain ⟨⟨c0, c1, c2, c3⟩, _⟩ := V
        go_wp2_with (refine wpList_vset rfl _ _ _ rfl _ _ _ _ rfl rfl V4 (by kernel_rfl) ?_; intro V2 B2 D3 hD _)
        obtain ⟨⟨d0, d1, d2, d3⟩, _⟩ := D3
        exact bodyPost_ret (v := .agg #[.int .i64 (E k 0), .int .i64 (E k 1), .int .i64 (E k 2), .int .i64 (E k 3)]) (by simp [results, Try.results79, go_sem, *]) rfl ⟨rfl, BB.trans B2⟩

end Go.Proofs.Ytcjlgfadjedgbaa
