/- The numbers and bytes of texel formats. No function of a program is named here. -/
import Derived.Test.YtfakmeimideoaaaMMath4
import Derived.Test.YtfakmeimideoaaaC8
namespace Go.Proofs.Ytfakmeimideoaaa
open Go.RowKit Go.Sort

/-- The integer of a number, the number of an integer. -/
def unv (x b : Int) : Int := if 1 ≤ b ∧ b ≤ 16 then rdv (clampv x 0 65536 * (pw b - 1)) 65536 else 0
def fromv (n b : Int) : Int := if 1 ≤ b ∧ b ≤ 16 then rdv (clampv n 0 (pw b - 1) * 65536) (pw b - 1) else 0

theorem pw_16b {b : Int} (h : 1 ≤ b ∧ b ≤ 16) : 2 ≤ pw b ∧ pw b ≤ 65536 := by
  have h1 := pw_le 1 b h.1
  have h2 := pw_le b 16 h.2
  have e1 : pw 1 = 2 := by decide
  have e2 : pw 16 = 65536 := by decide
  omega

theorem clampv_in {x lo hi : Int} (h : lo ≤ hi) : lo ≤ clampv x lo hi ∧ clampv x lo hi ≤ hi := by unfold clampv; grind
theorem clampv_id {x lo hi : Int} (h1 : lo ≤ x) (h2 : x ≤ hi) : clampv x lo hi = x := by unfold clampv; grind
theorem clampv_mono {x y lo hi : Int} (h : x ≤ y) (hh : lo ≤ hi) : clampv x lo hi ≤ clampv y lo hi := by unfold clampv; grind

theorem mul_bds {x a y b : Int} (h0 : 0 ≤ x) (h1 : x ≤ a) (h2 : 0 ≤ y) (h3 : y ≤ b) : 0 ≤ x * y ∧ x * y ≤ a * b :=
  ⟨Int.mul_nonneg h0 h2, Int.mul_le_mul h1 h3 h2 (by omega)⟩

theorem unv_in {x b : Int} (h : 1 ≤ b ∧ b ≤ 16) : unv x b = rdv (clampv x 0 65536 * (pw b - 1)) 65536 := if_pos h
theorem fromv_in {x b : Int} (h : 1 ≤ b ∧ b ≤ 16) : fromv x b = rdv (clampv x 0 (pw b - 1) * 65536) (pw b - 1) := if_pos h
theorem unv_out {x b : Int} (h : ¬ (1 ≤ b ∧ b ≤ 16)) : unv x b = 0 := if_neg h
theorem fromv_out {x b : Int} (h : ¬ (1 ≤ b ∧ b ≤ 16)) : fromv x b = 0 := if_neg h

theorem unv_rng {x b : Int} (h : 1 ≤ b ∧ b ≤ 16) : 0 ≤ unv x b ∧ unv x b ≤ pw b - 1 := by
  have hp := pw_16b h
  have hc := clampv_in (x := x) (show (0 : Int) ≤ 65536 by omega)
  have hm := mul_bds hc.1 hc.2 (show 0 ≤ pw b - 1 by omega) (Int.le_refl _)
  rw [unv_in h]
  have h1 := rdv_near (clampv x 0 65536 * (pw b - 1)) 65536 (by omega) hm.1
  refine ⟨h1.2.2, rdv_le _ _ _ (by omega) (by omega) ?_⟩
  omega

theorem fromv_rng {n b : Int} : 0 ≤ fromv n b ∧ fromv n b ≤ 65536 := by
  by_cases h : 1 ≤ b ∧ b ≤ 16
  · have hp := pw_16b h
    have hc := clampv_in (x := n) (show 0 ≤ pw b - 1 by omega)
    rw [fromv_in h]
    have h1 := rdv_near (clampv n 0 (pw b - 1) * 65536) (pw b - 1) (by omega) (by omega)
    refine ⟨h1.2.2, rdv_le _ _ _ (by omega) (by omega) ?_⟩
    omega
  · rw [fromv_out h]; omega

theorem unv_mono {x y b : Int} (h : x ≤ y) : unv x b ≤ unv y b := by
  by_cases hb : 1 ≤ b ∧ b ≤ 16
  · have hp := pw_16b hb
    have hc := clampv_in (x := x) (show (0 : Int) ≤ 65536 by omega)
    have hm := clampv_mono h (show (0 : Int) ≤ 65536 by omega)
    rw [unv_in hb, unv_in hb]
    exact rdv_mono _ _ _ (by omega) (Int.mul_nonneg hc.1 (by omega)) (Int.mul_le_mul_of_nonneg_right hm (by omega))
  · rw [unv_out hb, unv_out hb]; omega

theorem fromv_mono {x y b : Int} (h : x ≤ y) : fromv x b ≤ fromv y b := by
  by_cases hb : 1 ≤ b ∧ b ≤ 16
  · have hp := pw_16b hb
    have hc := clampv_in (x := x) (show (0 : Int) ≤ pw b - 1 by omega)
    have hm := clampv_mono h (show (0 : Int) ≤ pw b - 1 by omega)
    rw [fromv_in hb, fromv_in hb]
    exact rdv_mono _ _ _ (by omega) (by omega) (by omega)
  · rw [fromv_out hb, fromv_out hb]; omega

theorem unv_fromv {n b : Int} (h : 1 ≤ b ∧ b ≤ 16) (h0 : 0 ≤ n) (h1 : n ≤ pw b - 1) : unv (fromv n b) b = n := by
  have hp := pw_16b h
  have hr := fromv_rng (n := n) (b := b)
  rw [unv_in h, clampv_id hr.1 hr.2]
  rw [fromv_in h, clampv_id h0 h1] at *
  obtain ⟨f, hf⟩ : ∃ f, rdv (n * 65536) (pw b - 1) = f := ⟨_, rfl⟩
  have hn := rdv_near (n * 65536) (pw b - 1) (by omega) (by omega)
  rw [hf] at hn hr ⊢
  have hm := mul_bds hr.1 hr.2 (show 0 ≤ pw b - 1 by omega) (Int.le_refl _)
  obtain ⟨z, hz⟩ : ∃ z, f * (pw b - 1) = z := ⟨_, rfl⟩
  rw [hz] at hn hm ⊢
  have a1 := rdv_le z 65536 n (by omega) h0 (by omega)
  have a2 := rdv_ge z 65536 n (by omega) hm.1 (by omega)
  omega

theorem unv_zero {b : Int} : unv 0 b = 0 := by
  by_cases h : 1 ≤ b ∧ b ≤ 16
  · rw [unv_in h, clampv_id (by omega) (by omega), Int.zero_mul, rdv_zero _ (by omega)]
  · exact unv_out h
theorem unv_one {b : Int} (h : 1 ≤ b ∧ b ≤ 16) : unv 65536 b = pw b - 1 := by
  have hp := pw_16b h
  rw [unv_in h, clampv_id (by omega) (by omega), Int.mul_comm, rdv_mul _ _ (by omega) (by omega)]
theorem fromv_zero {b : Int} : fromv 0 b = 0 := by
  by_cases h : 1 ≤ b ∧ b ≤ 16
  · have hp := pw_16b h
    rw [fromv_in h, clampv_id (by omega) (by omega), Int.zero_mul, rdv_zero _ (by omega)]
  · exact fromv_out h
theorem fromv_most {b : Int} (h : 1 ≤ b ∧ b ≤ 16) : fromv (pw b - 1) b = 65536 := by
  have hp := pw_16b h
  rw [fromv_in h, clampv_id (by omega) (by omega), Int.mul_comm, rdv_mul _ _ (by omega) (by omega)]

/-! ### bytes -/
/-- The k lowest bytes of a number, the lowest one first. -/
def lb : Nat → Int → List Int
  | 0, _ => []
  | k + 1, n => n % 256 :: lb k (n / 256)
theorem lb_len (k : Nat) : ∀ n, (lb k n).length = k := by
  induction k with
  | zero => intro n; rfl
  | succ k ih => intro n; simp [lb, ih]
theorem lb_rng (k : Nat) : ∀ n, ∀ x ∈ lb k n, (0 : Int) ≤ x ∧ x ≤ 255 := by
  induction k with
  | zero => intro n x hx; cases hx
  | succ k ih =>
    intro n x hx
    simp only [lb, List.mem_cons] at hx
    rcases hx with rfl | hx
    · omega
    · exact ih _ x hx
theorem lb_litv {l : List Int} (h : ∀ x ∈ l, (0 : Int) ≤ x ∧ x ≤ 255) : lb l.length (litv l) = l := by
  induction l with
  | nil => rfl
  | cons x r ih =>
    have h1 := h x (by simp)
    have h2 := ih fun y hy => h y (by simp [hy])
    simp only [List.length_cons, lb, litv]
    rw [show (x + 256 * litv r) % 256 = x by omega, show (x + 256 * litv r) / 256 = litv r by omega, h2]
theorem lb_snoc (k : Nat) : ∀ n : Int, lb (k + 1) n = lb k n ++ [n / 256 ^ k % 256] := by
  induction k with
  | zero => intro n; simp [lb]
  | succ k ih =>
    intro n
    rw [lb, ih, lb, List.cons_append]
    congr 3
    rw [Int.ediv_ediv_of_nonneg (by omega), pow256_succ]

/-! ### half numbers -/
def hv (x : Int) : Int := encv 5 10 true x
def dv (p : Int) : Int := decv 5 10 p
theorem hv_rng (x : Int) : 0 ≤ hv x ∧ hv x < 65536 := by
  have h := encv_bd 5 10 x true (by omega) (by omega) (by omega) (by omega)
  have e : pw (5 + 10 + sbit true) = 65536 := by decide
  unfold hv
  omega

theorem encm_half_idem (x : Int) (h5 : 0 ≤ x) (h6 : x < 536870912) : encm 5 10 (Q 5 10 x) = encm 5 10 x := by
  have b := Q_bd 5 10 x (by omega) (by omega) (by omega) (by omega) h5 h6
  obtain ⟨c0, c1⟩ := encm_in 5 10 x (by omega) (by omega) (by omega) (by omega) h5 h6
  have he := half_exact x h5 h6
  have eb : biasv 5 = 15 := rfl
  have vn := V_nonneg 5 10 (encm 5 10 x) (by rw [eb]; omega) c0
  by_cases hb : V 5 10 (encm 5 10 x) ≤ 256 * 536870911
  · have hq : V 5 10 (encm 5 10 x) = 256 * Q 5 10 x := by
      unfold Q dq; rw [sat_id _ (by omega) (by omega)]; omega
    exact encm_exact 5 10 (Q 5 10 x) (encm 5 10 x) (by omega) (by omega) (by omega) (by omega) b.1 (by omega) c0 c1 hq
  · have hq : Q 5 10 x = 536870911 := by
      have h := b.2
      unfold Q dq at *
      have := sat_mono 536870911 ((V 5 10 (encm 5 10 x) + 128) / 256) (by omega)
      have z : sat 536870911 = 536870911 := rfl
      omega
    have e1 : encm 5 10 536870911 = 28672 := by decide +kernel
    have e2 : V 5 10 28671 ≤ 256 * 536870911 := by decide +kernel
    have m1 := encm_mono 5 10 x 536870911 (by omega) (by omega) (by omega) (by omega) h5 (by omega) (by omega)
    rw [hq, e1]
    rw [e1] at m1
    rcases (show encm 5 10 x < 28672 ∨ 28672 ≤ encm 5 10 x by omega) with hlt | hge
    · have := V_le 5 10 (encm 5 10 x) 28671 (by rw [eb]; omega) c0 (by omega)
      omega
    · omega

theorem hv_idem (x : Int) : hv (dv (hv x)) = hv x := by
  have bs := sat_bd x
  have bn := sat_neg_iff x
  have z : encm 5 10 0 = 0 := by decide +kernel
  have q : dv (hv x) = if 0 ≤ x then Q 5 10 (sat x) else -Q 5 10 (-sat x) := by
    have h := qv_eq 5 10 true x (by omega) (by omega) (by omega) (by omega)
    simpa [qv, hv, dv] using h
  rw [q]
  by_cases hx : 0 ≤ x
  · have b := Q_bd 5 10 (sat x) (by omega) (by omega) (by omega) (by omega) (by omega) (by omega)
    rw [if_pos hx]
    unfold hv encv
    rw [if_pos b.1, if_pos hx, sat_id _ (by omega) (by omega), encm_half_idem _ (by omega) (by omega)]
  · have b := Q_bd 5 10 (-sat x) (by omega) (by omega) (by omega) (by omega) (by omega) (by omega)
    have hi := encm_half_idem (-sat x) (by omega) (by omega)
    rw [if_neg hx]
    unfold hv encv
    rw [if_neg hx]
    simp only [if_true]
    by_cases hz : Q 5 10 (-sat x) = 0
    · rw [hz] at hi ⊢
      rw [z] at hi
      rw [if_pos (by omega), if_pos hi.symm]
      simpa [sat] using z
    · rw [if_neg (by omega), sat_neg, sat_id _ (by omega) (by omega), Int.neg_neg, hi]

/-! ### formats: R8 1, RGBA8 2, RGB565 3, RGB10A2 4, R16F 5, RGBA16F 6 -/
def nsz (f : Int) : Nat := if f = 1 then 1 else if f = 2 then 4 else if f = 3 then 2 else if f = 4 then 4 else if f = 5 then 2 else if f = 6 then 8 else 0
def ncm (f : Int) : Nat := if f = 1 then 1 else if f = 2 then 4 else if f = 3 then 3 else if f = 4 then 4 else if f = 5 then 1 else if f = 6 then 4 else 0
/-- The number of a texel with integers. -/
def pack (f x0 x1 x2 x3 : Int) : Int :=
  if f = 1 then unv x0 8
  else if f = 2 then unv x0 8 + unv x1 8 * 256 + unv x2 8 * 65536 + unv x3 8 * 16777216
  else if f = 3 then unv x2 5 + unv x1 6 * 32 + unv x0 5 * 2048
  else unv x0 10 + unv x1 10 * 1024 + unv x2 10 * 1048576 + unv x3 2 * 1073741824
/-- The bytes of a texel. -/
def enc (f x0 x1 x2 x3 : Int) : List Int :=
  if f = 5 then lb 2 (hv x0)
  else if f = 6 then lb 2 (hv x0) ++ (lb 2 (hv x1) ++ (lb 2 (hv x2) ++ lb 2 (hv x3)))
  else if nsz f = 0 then [] else lb (nsz f) (pack f x0 x1 x2 x3)
/-- A component of the color of a number. -/
def fields (f n : Int) (i : Nat) : Int :=
  if f = 1 then (if i = 0 then fromv n 8 else if i = 3 then 65536 else 0)
  else if f = 2 then fromv (n / 256 ^ i % 256) 8
  else if f = 3 then (if i = 0 then fromv (n / 2048 % 32) 5 else if i = 1 then fromv (n / 32 % 64) 6 else if i = 2 then fromv (n % 32) 5 else 65536)
  else (if i = 3 then fromv (n / 1073741824 % 4) 2 else fromv (n / 1024 ^ i % 1024) 10)
def dec (f : Int) (l : List Int) (i : Nat) : Int :=
  if nsz f = 0 ∨ l.length ≠ nsz f then 0
  else if f = 5 then (if i = 0 then dv (litv l) else if i = 3 then 65536 else 0)
  else if f = 6 then dv (litv (part l (2 * i) 2))
  else fields f (litv l) i

theorem fmt_cases (f : Int) : f = 1 ∨ f = 2 ∨ f = 3 ∨ f = 4 ∨ f = 5 ∨ f = 6 ∨ (f ≠ 1 ∧ f ≠ 2 ∧ f ≠ 3 ∧ f ≠ 4 ∧ f ≠ 5 ∧ f ≠ 6) := by omega
theorem nsz_none {f : Int} (h : f ≠ 1 ∧ f ≠ 2 ∧ f ≠ 3 ∧ f ≠ 4 ∧ f ≠ 5 ∧ f ≠ 6) : nsz f = 0 := by unfold nsz; rw [if_neg h.1, if_neg h.2.1, if_neg h.2.2.1, if_neg h.2.2.2.1, if_neg h.2.2.2.2.1, if_neg h.2.2.2.2.2]
theorem ncm_none {f : Int} (h : f ≠ 1 ∧ f ≠ 2 ∧ f ≠ 3 ∧ f ≠ 4 ∧ f ≠ 5 ∧ f ≠ 6) : ncm f = 0 := by unfold ncm; rw [if_neg h.1, if_neg h.2.1, if_neg h.2.2.1, if_neg h.2.2.2.1, if_neg h.2.2.2.2.1, if_neg h.2.2.2.2.2]
theorem enc_none {f x0 x1 x2 x3 : Int} (h : nsz f = 0) : enc f x0 x1 x2 x3 = [] := by
  unfold enc
  have h5 : f ≠ 5 := by rintro rfl; exact absurd h (by decide)
  have h6 : f ≠ 6 := by rintro rfl; exact absurd h (by decide)
  rw [if_neg h5, if_neg h6, if_pos h]
theorem dec_none {f : Int} {l : List Int} {i : Nat} (h : nsz f = 0 ∨ l.length ≠ nsz f) : dec f l i = 0 := if_pos h
theorem nsz_le (f : Int) : nsz f ≤ 8 := by
  rcases fmt_cases f with rfl | rfl | rfl | rfl | rfl | rfl | h
  all_goals first | decide | (rw [nsz_none h]; omega)
theorem enc_len (f x0 x1 x2 x3 : Int) : (enc f x0 x1 x2 x3).length = nsz f := by
  rcases fmt_cases f with rfl | rfl | rfl | rfl | rfl | rfl | h
  · exact lb_len _ _
  · exact lb_len _ _
  · exact lb_len _ _
  · exact lb_len _ _
  · exact lb_len _ _
  · show (lb 2 (hv x0) ++ (lb 2 (hv x1) ++ (lb 2 (hv x2) ++ lb 2 (hv x3)))).length = 8
    simp [lb_len]
  · rw [enc_none (nsz_none h), nsz_none h]; rfl
theorem enc_rng (f x0 x1 x2 x3 : Int) : ∀ x ∈ enc f x0 x1 x2 x3, (0 : Int) ≤ x ∧ x ≤ 255 := by
  rcases fmt_cases f with rfl | rfl | rfl | rfl | rfl | rfl | h
  · exact lb_rng _ _
  · exact lb_rng _ _
  · exact lb_rng _ _
  · exact lb_rng _ _
  · exact lb_rng _ _
  · show ∀ x ∈ lb 2 (hv x0) ++ (lb 2 (hv x1) ++ (lb 2 (hv x2) ++ lb 2 (hv x3))), _
    intro x hx
    simp only [List.mem_append] at hx
    rcases hx with hx | hx | hx | hx
    all_goals exact lb_rng _ _ _ hx
  · rw [enc_none (nsz_none h)]
    intro x hx
    cases hx

theorem uf {n b : Int} {k : Int} (hb : 1 ≤ b ∧ b ≤ 16) (hk : pw b = k) (h0 : 0 ≤ n) (h1 : n < k) : unv (fromv n b) b = n := unv_fromv hb h0 (by omega)
theorem p2 : pw 2 = 4 := by decide
theorem p5 : pw 5 = 32 := by decide
theorem p6 : pw 6 = 64 := by decide
theorem p8 : pw 8 = 256 := by decide
theorem p10 : pw 10 = 1024 := by decide

/-- The number of a texel with integers comes back. -/
theorem pack_fields (f n : Int) (hf : f = 1 ∨ f = 2 ∨ f = 3 ∨ f = 4) (h0 : 0 ≤ n) (h1 : n < 256 ^ nsz f) : pack f (fields f n 0) (fields f n 1) (fields f n 2) (fields f n 3) = n := by
  rcases hf with rfl | rfl | rfl | rfl
  · have h1' : n < 256 := h1
    show unv (fromv n 8) 8 = n
    exact uf (by omega) p8 h0 h1'
  · have h1' : n < 4294967296 := h1
    show unv (fromv (n / 256 ^ 0 % 256) 8) 8 + unv (fromv (n / 256 ^ 1 % 256) 8) 8 * 256 + unv (fromv (n / 256 ^ 2 % 256) 8) 8 * 65536 + unv (fromv (n / 256 ^ 3 % 256) 8) 8 * 16777216 = n
    rw [uf (by omega) p8 (by omega) (by omega), uf (by omega) p8 (by omega) (by omega), uf (by omega) p8 (by omega) (by omega), uf (by omega) p8 (by omega) (by omega)]
    omega
  · have h1' : n < 65536 := h1
    show unv (fromv (n % 32) 5) 5 + unv (fromv (n / 32 % 64) 6) 6 * 32 + unv (fromv (n / 2048 % 32) 5) 5 * 2048 = n
    rw [uf (by omega) p5 (by omega) (by omega), uf (by omega) p6 (by omega) (by omega), uf (by omega) p5 (by omega) (by omega)]
    omega
  · have h1' : n < 4294967296 := h1
    show unv (fromv (n / 1024 ^ 0 % 1024) 10) 10 + unv (fromv (n / 1024 ^ 1 % 1024) 10) 10 * 1024 + unv (fromv (n / 1024 ^ 2 % 1024) 10) 10 * 1048576 + unv (fromv (n / 1073741824 % 4) 2) 2 * 1073741824 = n
    rw [uf (by omega) p10 (by omega) (by omega), uf (by omega) p10 (by omega) (by omega), uf (by omega) p10 (by omega) (by omega), uf (by omega) p2 (by omega) (by omega)]
    omega

/-- The bytes of a texel with integers come back. -/
theorem enc_dec (f : Int) (l : List Int) (hf : f = 1 ∨ f = 2 ∨ f = 3 ∨ f = 4) (hl : l.length = nsz f) (hr : ∀ x ∈ l, (0 : Int) ≤ x ∧ x ≤ 255) : enc f (dec f l 0) (dec f l 1) (dec f l 2) (dec f l 3) = l := by
  have h1 := litv_rng l hr
  rw [hl] at h1
  have hz : nsz f ≠ 0 := by rcases hf with rfl | rfl | rfl | rfl <;> decide
  have h5 : f ≠ 5 := by omega
  have h6 : f ≠ 6 := by omega
  have e : ∀ i, dec f l i = fields f (litv l) i := fun i => by unfold dec; rw [if_neg (by rw [hl]; simp [hz]), if_neg h5, if_neg h6]
  unfold enc
  rw [if_neg h5, if_neg h6, if_neg hz, e, e, e, e, pack_fields f _ hf h1.1 h1.2, ← hl, lb_litv hr]

theorem litv_lb2 {h : Int} (h0 : 0 ≤ h) (h1 : h < 65536) : litv (lb 2 h) = h := by
  show h % 256 + 256 * (h / 256 % 256 + 256 * 0) = h
  omega

/-- The bytes of any color come back. -/
theorem enc_idem (f x0 x1 x2 x3 : Int) : enc f (dec f (enc f x0 x1 x2 x3) 0) (dec f (enc f x0 x1 x2 x3) 1) (dec f (enc f x0 x1 x2 x3) 2) (dec f (enc f x0 x1 x2 x3) 3) = enc f x0 x1 x2 x3 := by
  have hr := hv_rng
  rcases fmt_cases f with h | h | h | h | rfl | rfl | h
  · exact enc_dec f _ (by omega) (enc_len _ _ _ _ _) (enc_rng _ _ _ _ _)
  · exact enc_dec f _ (by omega) (enc_len _ _ _ _ _) (enc_rng _ _ _ _ _)
  · exact enc_dec f _ (by omega) (enc_len _ _ _ _ _) (enc_rng _ _ _ _ _)
  · exact enc_dec f _ (by omega) (enc_len _ _ _ _ _) (enc_rng _ _ _ _ _)
  · show lb 2 (hv (dv (litv (lb 2 (hv x0))))) = lb 2 (hv x0)
    rw [litv_lb2 (hr x0).1 (hr x0).2, hv_idem]
  · show lb 2 (hv (dv (litv (lb 2 (hv x0))))) ++ (lb 2 (hv (dv (litv (lb 2 (hv x1))))) ++ (lb 2 (hv (dv (litv (lb 2 (hv x2))))) ++ lb 2 (hv (dv (litv (lb 2 (hv x3))))))) = lb 2 (hv x0) ++ (lb 2 (hv x1) ++ (lb 2 (hv x2) ++ lb 2 (hv x3)))
    rw [litv_lb2 (hr x0).1 (hr x0).2, litv_lb2 (hr x1).1 (hr x1).2, litv_lb2 (hr x2).1 (hr x2).2, litv_lb2 (hr x3).1 (hr x3).2, hv_idem, hv_idem, hv_idem, hv_idem]
  · rw [enc_none (nsz_none h), enc_none (nsz_none h)]

/-- A quantized color's components. -/
def qnt (f x0 x1 x2 x3 : Int) (i : Nat) : Int := dec f (enc f x0 x1 x2 x3) i
theorem qnt_idem (f x0 x1 x2 x3 : Int) (i : Nat) : qnt f (qnt f x0 x1 x2 x3 0) (qnt f x0 x1 x2 x3 1) (qnt f x0 x1 x2 x3 2) (qnt f x0 x1 x2 x3 3) i = qnt f x0 x1 x2 x3 i := by
  unfold qnt
  rw [enc_idem]
theorem qnt_none {f x0 x1 x2 x3 : Int} {i : Nat} (h : nsz f = 0) : qnt f x0 x1 x2 x3 i = 0 := dec_none (.inl h)
theorem dec_rng (f : Int) (l : List Int) (i : Nat) (hf : f ≤ 4) : 0 ≤ dec f l i ∧ dec f l i ≤ 65536 := by
  unfold dec
  split
  · omega
  · rw [if_neg (by omega), if_neg (by omega)]
    unfold fields
    repeat' split
    all_goals first | exact fromv_rng | omega
theorem dec_missing (f : Int) (l : List Int) (i : Nat) (hz : nsz f ≠ 0) (hl : l.length = nsz f) (hi : i < 4) (h : ncm f ≤ i) : dec f l i = if i = 3 then 65536 else 0 := by
  unfold dec
  rw [if_neg (by rw [hl]; simp [hz])]
  rcases fmt_cases f with rfl | rfl | rfl | rfl | rfl | rfl | hf
  · have h : 1 ≤ i := h
    show (if i = 0 then _ else if i = 3 then (65536 : Int) else 0) = _
    rw [if_neg (by omega)]
  · have h : 4 ≤ i := h
    omega
  · have h : 3 ≤ i := h
    obtain rfl : i = 3 := by omega
    rfl
  · have h : 4 ≤ i := h
    omega
  · have h : 1 ≤ i := h
    show (if i = 0 then _ else if i = 3 then (65536 : Int) else 0) = _
    rw [if_neg (by omega)]
  · have h : 4 ≤ i := h
    omega
  · exact absurd (nsz_none hf) hz

end Go.Proofs.Ytfakmeimideoaaa
