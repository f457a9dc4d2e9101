/- What Covers says, in plain numbers. -/
import Derived.Test.YtcnemjkcihlpeaaEG2
namespace Go.Proofs.Ytcnemjkcihlpeaa
set_option linter.unusedSimpArgs false
open Go.RowKit Go.Sort Go.ChangeShapes Go.WideShapes
set_option linter.unusedVariables false

theorem cov_valid (a b c : SV) (px py : Int) (h : cov a b c px py = true) : trv a b c = true := by
  unfold cov at h
  simp only [Bool.and_eq_true] at h
  exact h.1

def dv (ax ay bx by' px py : Int) : Int := (bx - ax) * (py - ay) - (by' - ay) * (px - ax)

def tl (ax ay bx by' : Int) : Bool := decide (by' < ay) || (decide (ay = by') && decide (ax < bx))

def ac (ax ay bx by' px py : Int) : Bool := decide (0 < dv ax ay bx by' px py) || (decide (dv ax ay bx by' px py = 0) && tl ax ay bx by')

theorem dv_neg (ax ay bx by' px py : Int) : dv bx by' ax ay px py = -dv ax ay bx by' px py := by
  unfold dv; grind

theorem dv_sum (ax ay bx by' cx cy px py : Int) : dv bx by' cx cy px py + dv cx cy ax ay px py + dv ax ay bx by' px py = dv ax ay bx by' cx cy := by
  unfold dv; grind

/-- A point, by its weights. -/
theorem dv_bary (ax ay bx by' cx cy px py : Int) : dv ax ay bx by' cx cy * px = dv bx by' cx cy px py * ax + dv cx cy ax ay px py * bx + dv ax ay bx by' px py * cx := by
  unfold dv; grind

theorem dv_baryY (ax ay bx by' cx cy px py : Int) : dv ax ay bx by' cx cy * py = dv bx by' cx cy px py * ay + dv cx cy ax ay px py * by' + dv ax ay bx by' px py * cy := by
  unfold dv; grind

theorem dv_own1 (ax ay bx by' : Int) : dv ax ay bx by' ax ay = 0 := by unfold dv; grind

theorem ac_nonneg (ax ay bx by' px py : Int) (h : ac ax ay bx by' px py = true) : 0 ≤ dv ax ay bx by' px py := by
  unfold ac at h
  simp at h
  omega

/-- The sign of a product. -/
theorem sgn_mul (k n d e : Int) (hk : 0 < k) (hn : 0 < n) (h : k * d = n * e) : (0 < d ↔ 0 < e) ∧ (d = 0 ↔ e = 0) := by
  rcases Int.lt_trichotomy e 0 with h1 | h1 | h1
  · have a1 : n * e < 0 := by have := Int.mul_lt_mul_of_pos_left h1 hn; omega
    have : d < 0 := by
      rcases (show d < 0 ∨ 0 ≤ d by omega) with h2 | h2
      · exact h2
      · have := Int.mul_nonneg (Int.le_of_lt hk) h2; omega
    omega
  · subst h1
    rw [Int.mul_zero] at h
    have : d = 0 := by
      rcases Int.mul_eq_zero.1 h with h2 | h2 <;> omega
    omega
  · have a1 := Int.mul_pos hn h1
    have : 0 < d := by
      rcases (show 0 < d ∨ d ≤ 0 by omega) with h2 | h2
      · exact h2
      · have : k * d ≤ 0 := by have := Int.mul_le_mul_of_nonneg_left h2 (Int.le_of_lt hk); omega
        omega
    omega

theorem tl_dir (ax ay bx by' cx cy dx dy k n : Int) (hk : 0 < k) (hn : 0 < n) (hx : k * (bx - ax) = n * (dx - cx)) (hy : k * (by' - ay) = n * (dy - cy)) : tl ax ay bx by' = tl cx cy dx dy := by
  have h1 := sgn_mul k n _ _ hk hn hx
  have h2 := sgn_mul k n (ay - by') (cy - dy) hk hn (by have e1 : ay - by' = -(by' - ay) := by omega
                                                        have e2 : cy - dy = -(dy - cy) := by omega
                                                        rw [e1, e2, Int.mul_neg, Int.mul_neg, hy])
  unfold tl
  rw [Bool.eq_iff_iff]
  simp
  omega

/-- A point on an edge parts it in two of the same direction. -/
theorem split_dir (ax ay bx by' cx cy mx my : Int) (hm : dv bx by' cx cy mx my = 0) : dv ax ay bx by' cx cy * (mx - bx) = dv ax ay bx by' mx my * (cx - bx) ∧ dv ax ay bx by' cx cy * (my - by') = dv ax ay bx by' mx my * (cy - by') := by
  have h1 := dv_bary ax ay bx by' cx cy mx my
  have h2 := dv_baryY ax ay bx by' cx cy mx my
  have h3 := dv_sum ax ay bx by' cx cy mx my
  rw [hm] at h1 h2 h3
  constructor
  · rw [Int.mul_sub, Int.mul_sub, h1]
    have : dv cx cy ax ay mx my = dv ax ay bx by' cx cy - dv ax ay bx by' mx my := by omega
    rw [this, Int.sub_mul]; omega
  · rw [Int.mul_sub, Int.mul_sub, h2]
    have : dv cx cy ax ay mx my = dv ax ay bx by' cx cy - dv ax ay bx by' mx my := by omega
    rw [this, Int.sub_mul]; omega

theorem split_dir2 (ax ay bx by' cx cy mx my : Int) (hm : dv bx by' cx cy mx my = 0) : dv ax ay bx by' cx cy * (cx - mx) = dv cx cy ax ay mx my * (cx - bx) ∧ dv ax ay bx by' cx cy * (cy - my) = dv cx cy ax ay mx my * (cy - by') := by
  have h1 := dv_bary ax ay bx by' cx cy mx my
  have h2 := dv_baryY ax ay bx by' cx cy mx my
  have h3 := dv_sum ax ay bx by' cx cy mx my
  rw [hm] at h1 h2 h3
  have h4 : dv ax ay bx by' cx cy = dv cx cy ax ay mx my + dv ax ay bx by' mx my := by omega
  constructor
  · rw [Int.mul_sub, Int.mul_sub, h1]
    rw [h4, Int.add_mul]; omega
  · rw [Int.mul_sub, Int.mul_sub, h2]
    rw [h4, Int.add_mul]; omega

theorem ac_dir (bx by' cx cy mx my ex ey px py k n : Int) (hk : 0 < k) (hn : 0 < n) (hx : k * (ex - mx) = n * (cx - bx)) (hy : k * (ey - my) = n * (cy - by')) (he : k * dv mx my ex ey px py = n * dv bx by' cx cy px py) : ac mx my ex ey px py = ac bx by' cx cy px py := by
  have h1 := sgn_mul k n _ _ hk hn he
  have h2 := tl_dir mx my ex ey bx by' cx cy k n hk hn hx hy
  unfold ac
  rw [h2, decide_eq_decide.2 h1.1, decide_eq_decide.2 h1.2]

theorem ac_opp (ax ay bx by' px py : Int) (h : ¬ (ax = bx ∧ ay = by')) : ac bx by' ax ay px py = !ac ax ay bx by' px py := by
  have h1 := dv_neg ax ay bx by' px py
  have h2 : tl bx by' ax ay = !tl ax ay bx by' := by unfold tl; rw [Bool.eq_iff_iff]; simp; omega
  unfold ac
  rw [h1, h2]
  generalize dv ax ay bx by' px py = f
  cases tl ax ay bx by' <;> rw [Bool.eq_iff_iff] <;> simp <;> omega

theorem split_third (ax ay bx by' cx cy mx my px py : Int) (hm : dv bx by' cx cy mx my = 0) : dv ax ay bx by' cx cy * dv ax ay mx my px py = dv cx cy ax ay mx my * dv ax ay bx by' px py - dv ax ay bx by' mx my * dv cx cy ax ay px py := by
  have h1 := dv_bary ax ay bx by' cx cy mx my
  have h2 := dv_baryY ax ay bx by' cx cy mx my
  have h3 := dv_sum ax ay bx by' cx cy mx my
  rw [hm] at h1 h2 h3
  have h4 : dv ax ay bx by' cx cy = dv cx cy ax ay mx my + dv ax ay bx by' mx my := by omega
  have e1 : ∀ p : Int, dv ax ay bx by' cx cy * ((mx - ax) * p) = (dv cx cy ax ay mx my * bx + dv ax ay bx by' mx my * cx - dv ax ay bx by' cx cy * ax) * p := by
    intro p; rw [← Int.mul_assoc, Int.mul_sub, h1]; grind
  have e2 : ∀ p : Int, dv ax ay bx by' cx cy * ((my - ay) * p) = (dv cx cy ax ay mx my * by' + dv ax ay bx by' mx my * cy - dv ax ay bx by' cx cy * ay) * p := by
    intro p; rw [← Int.mul_assoc, Int.mul_sub, h2]; grind
  rw [show dv ax ay mx my px py = (mx - ax) * (py - ay) - (my - ay) * (px - ax) from rfl, Int.mul_sub, e1, e2, h4]
  generalize dv cx cy ax ay mx my = s
  generalize dv ax ay bx by' mx my = t
  unfold dv
  grind

/-- Two directions of one half, and one between them. -/
theorem tl_between (ax ay bx by' cx cy mx my A s t : Int) (hA : 0 < A) (hs : 0 < s) (ht : 0 < t) (hx : A * (mx - ax) = s * (bx - ax) + t * (cx - ax)) (hy : A * (my - ay) = s * (by' - ay) + t * (cy - ay)) (h1 : tl ax ay bx by' = true) (h2 : tl ax ay cx cy = true) : tl ax ay mx my = true := by
  unfold tl at h1 h2 ⊢
  simp at h1 h2 ⊢
  have p1 : s * (by' - ay) ≤ 0 := by have := Int.mul_le_mul_of_nonneg_left (show by' - ay ≤ 0 by omega) (Int.le_of_lt hs); omega
  have p2 : t * (cy - ay) ≤ 0 := by have := Int.mul_le_mul_of_nonneg_left (show cy - ay ≤ 0 by omega) (Int.le_of_lt ht); omega
  have q1 : by' < ay → s * (by' - ay) < 0 := fun h => by have := Int.mul_lt_mul_of_pos_left (show by' - ay < 0 by omega) hs; omega
  have q2 : cy < ay → t * (cy - ay) < 0 := fun h => by have := Int.mul_lt_mul_of_pos_left (show cy - ay < 0 by omega) ht; omega
  have r1 : ax < bx → 0 < s * (bx - ax) := fun h => Int.mul_pos hs (by omega)
  have r2 : ax < cx → 0 < t * (cx - ax) := fun h => Int.mul_pos ht (by omega)
  have n1 : A * (my - ay) < 0 → my < ay := fun h => by
    rcases (show my < ay ∨ 0 ≤ my - ay by omega) with g | g
    · exact g
    · have := Int.mul_nonneg (Int.le_of_lt hA) g; omega
  have n2 : A * (my - ay) = 0 → my = ay := fun h => by
    rcases Int.mul_eq_zero.1 h with g | g <;> omega
  have n3 : 0 < A * (mx - ax) → ax < mx := fun h => by
    rcases (show ax < mx ∨ mx - ax ≤ 0 by omega) with g | g
    · exact g
    · have := Int.mul_le_mul_of_nonneg_left g (Int.le_of_lt hA); omega
  rcases h1 with h1 | ⟨h1, h1'⟩
  · have := q1 h1; exact .inl (n1 (by omega))
  · rcases h2 with h2 | ⟨h2, h2'⟩
    · have := q2 h2; exact .inl (n1 (by omega))
    · have z1 : s * (by' - ay) = 0 := by rw [← h1, Int.sub_self, Int.mul_zero]
      have z2 : t * (cy - ay) = 0 := by rw [← h2, Int.sub_self, Int.mul_zero]
      have := r1 h1'
      have := r2 h2'
      exact .inr ⟨(n2 (by omega)).symm, n3 (by omega)⟩

theorem tl_opp (ax ay bx by' : Int) (h : ¬ (ax = bx ∧ ay = by')) : tl bx by' ax ay = !tl ax ay bx by' := by unfold tl; rw [Bool.eq_iff_iff]; simp; omega

theorem ne_of_dv {ax ay bx by' cx cy : Int} (h : 0 < dv ax ay bx by' cx cy) : ¬ (ax = bx ∧ ay = by') := by
  rintro ⟨rfl, rfl⟩
  simp [dv] at h

/-- A point covered by one half is on the right side of the third edge. -/
theorem split_side (ax ay bx by' cx cy mx my px py : Int) (hA : 0 < dv ax ay bx by' cx cy) (hu : 0 < dv ax ay bx by' mx my) (hv : 0 < dv cx cy ax ay mx my) (hm : dv bx by' cx cy mx my = 0)
    (h1 : ac ax ay bx by' px py = true) (h2 : ac mx my ax ay px py = true) : ac cx cy ax ay px py = true := by
  have e := split_third ax ay bx by' cx cy mx my px py hm
  have g1 := ac_nonneg _ _ _ _ _ _ h1
  have g2 := ac_nonneg _ _ _ _ _ _ h2
  have o := dv_neg ax ay mx my px py
  have m1 := Int.mul_nonneg (Int.le_of_lt hv) g1
  have m2 : dv ax ay bx by' cx cy * dv ax ay mx my px py ≤ 0 := by have := Int.mul_le_mul_of_nonneg_left (show dv ax ay mx my px py ≤ 0 by omega) (Int.le_of_lt hA); omega
  have m3 : 0 ≤ dv ax ay bx by' mx my * dv cx cy ax ay px py := by omega
  rcases (show 0 < dv cx cy ax ay px py ∨ dv cx cy ax ay px py = 0 ∨ dv cx cy ax ay px py < 0 by omega) with h | h | h
  · unfold ac; simp [h]
  · rw [h, Int.mul_zero, Int.sub_zero] at e
    have z1 : dv ax ay bx by' px py = 0 := by
      have : dv cx cy ax ay mx my * dv ax ay bx by' px py = 0 := by omega
      rcases Int.mul_eq_zero.1 this with q | q <;> omega
    have z2 : dv ax ay mx my px py = 0 := by
      rw [z1, Int.mul_zero] at e
      rcases Int.mul_eq_zero.1 e with q | q <;> omega
    have t1 : tl ax ay bx by' = true := by unfold ac at h1; simp [z1] at h1; exact h1
    have t2 : tl mx my ax ay = true := by unfold ac at h2; rw [o, z2] at h2; simpa using h2
    have nm : ¬ (mx = ax ∧ my = ay) := by
      rintro ⟨rfl, rfl⟩
      rw [dv_own1] at hu; omega
    have nc : ¬ (cx = ax ∧ cy = ay) := ne_of_dv hv
    have t3 : tl ax ay mx my = false := by rw [tl_opp mx my ax ay nm, t2]; rfl
    have b1 := dv_bary ax ay bx by' cx cy mx my
    have b2 := dv_baryY ax ay bx by' cx cy mx my
    have b3 := dv_sum ax ay bx by' cx cy mx my
    rw [hm] at b1 b2 b3
    have t4 : tl ax ay cx cy = false := by
      rcases hc : tl ax ay cx cy with _ | _
      · rfl
      · have := tl_between ax ay bx by' cx cy mx my _ _ _ hA hv hu (by rw [Int.mul_sub, b1, ← b3]; grind) (by rw [Int.mul_sub, b2, ← b3]; grind) t1 hc
        rw [t3] at this; cases this
    have t5 : tl cx cy ax ay = true := by
      have := tl_opp cx cy ax ay nc
      rw [t4] at this
      revert this
      cases tl cx cy ax ay <;> simp
    unfold ac
    simp [h, t5]
  · have := Int.mul_lt_mul_of_pos_left h hu
    omega

theorem tl_turn (ax ay bx by' : Int) : tl ax ay (2 * ax - bx) (2 * ay - by') = tl bx by' ax ay := by
  unfold tl; rw [Bool.eq_iff_iff]; simp; omega

theorem split_side2 (ax ay bx by' cx cy mx my px py : Int) (hA : 0 < dv ax ay bx by' cx cy) (hu : 0 < dv ax ay bx by' mx my) (hv : 0 < dv cx cy ax ay mx my) (hm : dv bx by' cx cy mx my = 0)
    (h1 : ac ax ay mx my px py = true) (h2 : ac cx cy ax ay px py = true) : ac ax ay bx by' px py = true := by
  have e := split_third ax ay bx by' cx cy mx my px py hm
  have g1 := ac_nonneg _ _ _ _ _ _ h1
  have g2 := ac_nonneg _ _ _ _ _ _ h2
  have m1 := Int.mul_nonneg (Int.le_of_lt hA) g1
  have m2 := Int.mul_nonneg (Int.le_of_lt hu) g2
  rcases (show 0 < dv ax ay bx by' px py ∨ dv ax ay bx by' px py = 0 ∨ dv ax ay bx by' px py < 0 by omega) with h | h | h
  · unfold ac; simp [h]
  · rw [h, Int.mul_zero] at e
    have z1 : dv ax ay mx my px py = 0 := by
      have : dv ax ay bx by' cx cy * dv ax ay mx my px py = 0 := by omega
      rcases Int.mul_eq_zero.1 this with q | q <;> omega
    have z2 : dv cx cy ax ay px py = 0 := by
      rw [z1, Int.mul_zero] at e
      have : dv ax ay bx by' mx my * dv cx cy ax ay px py = 0 := by omega
      rcases Int.mul_eq_zero.1 this with q | q <;> omega
    have t1 : tl ax ay mx my = true := by unfold ac at h1; simp [z1] at h1; exact h1
    have t2 : tl cx cy ax ay = true := by unfold ac at h2; simp [z2] at h2; exact h2
    have nm : ¬ (ax = mx ∧ ay = my) := by
      rintro ⟨rfl, rfl⟩
      rw [dv_own1] at hu; omega
    have nb : ¬ (bx = ax ∧ by' = ay) := fun hh => ne_of_dv hu ⟨hh.1.symm, hh.2.symm⟩
    have b1 := dv_bary ax ay bx by' cx cy mx my
    have b2 := dv_baryY ax ay bx by' cx cy mx my
    have b3 := dv_sum ax ay bx by' cx cy mx my
    rw [hm] at b1 b2 b3
    have t3 : tl mx my ax ay = false := by rw [tl_opp ax ay mx my nm, t1]; rfl
    have t4 : tl bx by' ax ay = false := by
      rcases hc : tl bx by' ax ay with _ | _
      · rfl
      · have := tl_between ax ay (2 * ax - bx) (2 * ay - by') (2 * ax - cx) (2 * ay - cy) (2 * ax - mx) (2 * ay - my) _ _ _ hA hv hu
          (by rw [show 2 * ax - mx - ax = -(mx - ax) by omega, Int.mul_neg, Int.mul_sub, b1, ← b3]; grind)
          (by rw [show 2 * ay - my - ay = -(my - ay) by omega, Int.mul_neg, Int.mul_sub, b2, ← b3]; grind) (by rw [tl_turn]; exact hc) (by rw [tl_turn]; exact t2)
        rw [tl_turn, t3] at this; cases this
    have t5 : tl ax ay bx by' = true := by
      have := tl_opp ax ay bx by' (fun hh => nb ⟨hh.1.symm, hh.2.symm⟩)
      rw [t4] at this
      revert this
      cases tl ax ay bx by' <;> simp
    unfold ac
    simp [h, t5]
  · have := Int.mul_lt_mul_of_pos_left h hv
    omega

theorem mul_dir (k n X Y A B p q : Int) (h1 : k * X = n * A) (h2 : k * Y = n * B) : k * (X * p - Y * q) = n * (A * p - B * q) := by
  rw [Int.mul_sub, Int.mul_sub, ← Int.mul_assoc, ← Int.mul_assoc, ← Int.mul_assoc, ← Int.mul_assoc, h1, h2]

theorem split_all (ax ay bx by' cx cy mx my px py : Int) (hA : 0 < dv ax ay bx by' cx cy) (hu : 0 < dv ax ay bx by' mx my) (hv : 0 < dv ax ay mx my cx cy) (hm : dv bx by' cx cy mx my = 0) :
    (ac ax ay bx by' px py && (ac bx by' cx cy px py && ac cx cy ax ay px py)) = ((ac ax ay bx by' px py && (ac bx by' mx my px py && ac mx my ax ay px py)) || (ac ax ay mx my px py && (ac mx my cx cy px py && ac cx cy ax ay px py))) ∧
    ((ac ax ay bx by' px py && (ac bx by' mx my px py && ac mx my ax ay px py)) && (ac ax ay mx my px py && (ac mx my cx cy px py && ac cx cy ax ay px py))) = false := by
  have hv' : 0 < dv cx cy ax ay mx my := by rw [show dv cx cy ax ay mx my = dv ax ay mx my cx cy by unfold dv; grind]; exact hv
  have d1 := split_dir ax ay bx by' cx cy mx my hm
  have d2 := split_dir2 ax ay bx by' cx cy mx my hm
  have a1 : ac bx by' mx my px py = ac bx by' cx cy px py := by
    refine ac_dir bx by' cx cy bx by' mx my px py _ _ hA hu d1.1 d1.2 ?_
    exact mul_dir _ _ _ _ _ _ (py - by') (px - bx) d1.1 d1.2
  have a2 : ac mx my cx cy px py = ac bx by' cx cy px py := by
    refine ac_dir bx by' cx cy mx my cx cy px py _ _ hA hv' d2.1 d2.2 ?_
    have : dv bx by' cx cy px py = (cx - bx) * (py - my) - (cy - by') * (px - mx) := by
      have : dv bx by' cx cy px py = (cx - bx) * (py - my) - (cy - by') * (px - mx) + dv bx by' cx cy mx my := by unfold dv; grind
      rw [hm] at this; omega
    rw [this]
    exact mul_dir _ _ _ _ _ _ (py - my) (px - mx) d2.1 d2.2
  have nm : ¬ (ax = mx ∧ ay = my) := by
    rintro ⟨rfl, rfl⟩
    rw [dv_own1] at hu; omega
  have a3 := ac_opp ax ay mx my px py nm
  have s1 := split_side ax ay bx by' cx cy mx my px py hA hu hv' hm
  have s2 := split_side2 ax ay bx by' cx cy mx my px py hA hu hv' hm
  rw [a1, a2, a3]
  rw [a3] at s1
  revert s1 s2
  cases ac ax ay bx by' px py <;> cases ac bx by' cx cy px py <;> cases ac cx cy ax ay px py <;> cases ac ax ay mx my px py <;> simp

theorem acc_ac (ax ay bx by' px py : Int) : acc ax ay bx by' px py = ac (onv ax) (onv ay) (onv bx) (onv by') (onv px) (onv py) := rfl

theorem efn_dv (ax ay bx by' px py : Int) : efn ax ay bx by' px py = dv (onv ax) (onv ay) (onv bx) (onv by') (onv px) (onv py) := rfl

/-- A valid triangle lies on the screen. -/
theorem trv_in {a b c : SV} (h : trv a b c = true) : (onv a.x = a.x ∧ onv a.y = a.y ∧ onv b.x = b.x ∧ onv b.y = b.y ∧ onv c.x = c.x ∧ onv c.y = c.y) ∧ areav a b c = dv a.x a.y b.x b.y c.x c.y ∧ 0 < dv a.x a.y b.x b.y c.x c.y := by
  unfold trv at h
  rw [decide_eq_true_eq] at h
  by_cases hi : inr3 a b c = true
  · have e : areav a b c = dv a.x a.y b.x b.y c.x c.y := by unfold areav; rw [if_pos hi]; rfl
    rw [e] at h
    unfold inr3 at hi
    simp only [Bool.and_eq_true] at hi
    have h1 := inr_ways a
    have h2 := inr_ways b
    have h3 := inr_ways c
    simp only [hi.1.1, hi.1.2, hi.2, Bool.true_eq_false, and_false, or_false] at h1 h2 h3
    exact ⟨⟨onv_id _ h1.1 h1.2.1, onv_id _ h1.2.2.1 h1.2.2.2.1, onv_id _ h2.1 h2.2.1, onv_id _ h2.2.2.1 h2.2.2.2.1, onv_id _ h3.1 h3.2.1, onv_id _ h3.2.2.1 h3.2.2.2.1⟩, e, h⟩
  · unfold areav at h
    rw [if_neg hi] at h
    omega

theorem areav_turn34 (a b c : SV) : areav b c a = areav a b c := by
  unfold areav inr3
  cases inr a <;> cases inr b <;> cases inr c <;> simp <;> grind

theorem trv_turn (a b c : SV) : trv b c a = trv a b c := by unfold trv; rw [areav_turn34]

theorem cov_turn (a b c : SV) (px py : Int) : cov b c a px py = cov a b c px py := by
  unfold cov
  rw [trv_turn]
  cases trv a b c <;> cases acc a.x a.y b.x b.y px py <;> cases acc b.x b.y c.x c.y px py <;> cases acc c.x c.y a.x a.y px py <;> rfl

/-- A triangle divided by a segment from its first vertex. -/
theorem cov_split {a b c m : SV} (ht : trv a b c = true) (hu : trv a b m = true) (hv : trv a m c = true) (hm : efn b.x b.y c.x c.y m.x m.y = 0) (px py : Int) :
    cov a b c px py = (cov a b m px py || cov a m c px py) ∧ (cov a b m px py && cov a m c px py) = false := by
  obtain ⟨⟨g1, g2, g3, g4, g5, g6⟩, _, hA⟩ := trv_in ht
  obtain ⟨⟨_, _, _, _, g7, g8⟩, _, hU⟩ := trv_in hu
  obtain ⟨_, _, hV⟩ := trv_in hv
  rw [efn_dv, g3, g4, g5, g6, g7, g8] at hm
  unfold cov
  rw [ht, hu, hv]
  simp only [acc_ac, g1, g2, g3, g4, g5, g6, g7, g8, Bool.true_and]
  exact split_all _ _ _ _ _ _ _ _ _ _ hA hU hV hm

end Go.Proofs.Ytcnemjkcihlpeaa
