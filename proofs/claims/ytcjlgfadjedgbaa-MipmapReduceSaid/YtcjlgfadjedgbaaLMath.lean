/- Levels of mipmaps: their number, their sizes, the average of four texels, the chain of an image. No function of a program is named here. -/
import Derived.Test.YtcjlgfadjedgbaaIM
import Derived.Laws.MathBits
namespace Go.Proofs.Ytcjlgfadjedgbaa
open Go.RowKit Go.Sort

/-- A side halved k times, at least 1. -/
def hfs (n : Int) : Nat → Int
  | 0 => n
  | k + 1 => if hfs n k / 2 < 1 then 1 else hfs n k / 2

/-- How many levels. -/
def side (n : Int) : Prop := 1 ≤ n ∧ n ≤ 64
instance (n : Int) : Decidable (side n) := by unfold side; infer_instance
def nlv (w h : Int) : Nat := if side w ∧ side h then bitLen (if w < h then h else w).toNat else 0

theorem all64 {P : Nat → Prop} [DecidablePred P] (h : (List.range 65).all (fun n => decide (P n)) = true) {n : Int} (hn : side n) : P n.toNat := by
  have h1 := List.all_eq_true.1 h n.toNat (List.mem_range.2 (by have := hn.2; have := hn.1; omega))
  exact of_decide_eq_true h1

/-- The same on natural numbers, for the kernel. -/
def hfsN (n : Nat) : Nat → Nat
  | 0 => n
  | k + 1 => if hfsN n k / 2 < 1 then 1 else hfsN n k / 2
theorem hfs_nat (n : Nat) (k : Nat) : hfs (n : Int) k = (hfsN n k : Nat) := by
  induction k with
  | zero => rfl
  | succ k ih =>
    rw [hfs, hfsN, ih]
    split <;> split <;> omega
theorem hfs_of {n : Int} (h : side n) (k : Nat) : hfs n k = (hfsN n.toNat k : Nat) := by
  have := hfs_nat n.toNat k
  rwa [Int.toNat_of_nonneg (by have := h.1; omega)] at this

theorem hfs_side {n : Int} (h : side n) (k : Nat) : side (hfs n k) := by
  induction k with
  | zero => exact h
  | succ k ih => obtain ⟨h1, h2⟩ := ih; rw [hfs]; split <;> exact ⟨by omega, by omega⟩

/-- By a shift. -/
theorem hfs_shift {n : Int} (h : side n) {k : Nat} (hk : k < 7) : hfs n k = if n / 2 ^ k < 1 then 1 else n / 2 ^ k := by
  have h1 := all64 (P := fun n => ∀ k, k < 7 → 1 ≤ n → hfsN n k = if n / 2 ^ k < 1 then 1 else n / 2 ^ k) (by decide +kernel) h k hk (by have := h.1; omega)
  rw [hfs_of h, h1]
  obtain ⟨m, rfl⟩ : ∃ m : Nat, n = m := ⟨n.toNat, by have := h.1; omega⟩
  rw [Int.toNat_natCast]
  have e : ((m / 2 ^ k : Nat) : Int) = (m : Int) / 2 ^ k := by rw [Int.natCast_ediv]; simp
  rw [← e]
  split <;> split <;> omega

theorem bitLen_1 : bitLen 1 = 1 := by decide +kernel
theorem bitLen_half {n : Int} (h : side n) (h2 : 2 ≤ n) : bitLen (n / 2).toNat + 1 = bitLen n.toNat := by
  have h1 := all64 (P := fun n => 2 ≤ n → bitLen (n / 2) + 1 = bitLen n) (by decide +kernel) h (by omega)
  rwa [show n.toNat / 2 = (n / 2).toNat by omega] at h1
theorem bitLen_rng {n : Int} (h : side n) : 1 ≤ bitLen n.toNat ∧ bitLen n.toNat ≤ 7 :=
  all64 (P := fun n => 1 ≤ n → 1 ≤ bitLen n ∧ bitLen n ≤ 7) (by decide +kernel) h (by have := h.1; omega)
theorem bitLen_deep {n : Int} (h : side n) {k : Nat} (hk : k + 1 < bitLen n.toNat) : 2 ≤ hfs n k := by
  have h7 := (bitLen_rng h).2
  have h0 : (List.range 65).all (fun n => (List.range 6).all fun k => decide (bitLen n ≤ k + 1) || decide (2 ≤ hfsN n k)) = true := by decide +kernel
  have h1 := List.all_eq_true.1 (List.all_eq_true.1 h0 n.toNat (List.mem_range.2 (by have := h.2; have := h.1; omega))) k (List.mem_range.2 (by omega))
  simp only [Bool.or_eq_true, decide_eq_true_eq] at h1
  rw [hfs_of h]
  omega

theorem mxs {w h : Int} (hw : side w) (hh : side h) : side (if w < h then h else w) := by split <;> assumption
theorem nlv_in {w h : Int} (hw : side w) (hh : side h) : nlv w h = bitLen (if w < h then h else w).toNat := if_pos ⟨hw, hh⟩
theorem nlv_out {w h : Int} (k : ¬ (side w ∧ side h)) : nlv w h = 0 := if_neg k
theorem nlv_le (w h : Int) : nlv w h ≤ 7 := by
  unfold nlv
  split
  · rename_i k
    exact (bitLen_rng (mxs k.1 k.2)).2
  · omega
theorem nlv_pos {w h : Int} (hw : side w) (hh : side h) : 1 ≤ nlv w h := by rw [nlv_in hw hh]; exact (bitLen_rng (mxs hw hh)).1
theorem nlv_one {w h : Int} (hw : side w) (hh : side h) : nlv w h = 1 ↔ w = 1 ∧ h = 1 := by
  rw [nlv_in hw hh]
  constructor
  · intro e
    have h1 := mxs hw hh
    have h2 : ¬ 2 ≤ (if w < h then h else w) := fun h2 => by
      have h3 := bitLen_half h1 h2
      have h4 : side ((if w < h then h else w) / 2) := ⟨by omega, by have := h1.2; omega⟩
      have h5 := bitLen_rng h4
      omega
    have := hw.1
    have := hh.1
    split at h2 <;> omega
  · rintro ⟨rfl, rfl⟩; decide +kernel
/-- A level that is not the last is more than one texel. -/
theorem nlv_deep {w h : Int} (hw : side w) (hh : side h) {k : Nat} (hk : k + 1 < nlv w h) : ¬ (hfs w k = 1 ∧ hfs h k = 1) := by
  rw [nlv_in hw hh] at hk
  rintro ⟨h1, h2⟩
  split at hk
  · have := bitLen_deep hh hk; omega
  · have := bitLen_deep hw hk; omega

/-! ### the average -/
def gt4 (m : Im) (x y : Int) (i : Nat) : Int :=
  m.get (2 * x) (2 * y) i + m.get (if m.w - 1 < 2 * x + 1 then m.w - 1 else 2 * x + 1) (2 * y) i + m.get (2 * x) (if m.h - 1 < 2 * y + 1 then m.h - 1 else 2 * y + 1) i + m.get (if m.w - 1 < 2 * x + 1 then m.w - 1 else 2 * x + 1) (if m.h - 1 < 2 * y + 1 then m.h - 1 else 2 * y + 1) i
def avg (m : Im) (x y : Int) (i : Nat) : Int := rda (gt4 m x y i) 4
/-- A texel of the next level. -/
def rtx (m : Im) (x y : Int) : List Int := enc m.f (avg m x y 0) (avg m x y 1) (avg m x y 2) (avg m x y 3)
theorem rtx_len (m : Im) (x y : Int) : (rtx m x y).length = nsz m.f := enc_len _ _ _ _ _

/-- The first k texels of the next level, row by row (W in a row). -/
def rpre (m : Im) (W : Nat) : Nat → List Int
  | 0 => []
  | k + 1 => rpre m W k ++ rtx m ((k % W : Nat) : Int) ((k / W : Nat) : Int)
theorem rpre_len (m : Im) (W k : Nat) : (rpre m W k).length = k * nsz m.f := by
  induction k with
  | zero => simp [rpre]
  | succ k ih => rw [rpre, List.length_append, ih, rtx_len, Nat.add_mul, Nat.one_mul]
theorem rpre_rng (m : Im) (W k : Nat) : ∀ x ∈ rpre m W k, (0 : Int) ≤ x ∧ x ≤ 255 := by
  induction k with
  | zero => intro x hx; cases hx
  | succ k ih =>
    intro x hx
    rw [rpre] at hx
    rcases List.mem_append.1 hx with hx | hx
    · exact ih x hx
    · exact enc_rng _ _ _ _ _ x hx
theorem rpre_row {m : Im} {W x y : Nat} (hx : x < W) : rpre m W (y * W + x + 1) = rpre m W (y * W + x) ++ rtx m x y := by
  rw [rpre, show (y * W + x) % W = x by rw [Nat.add_comm, Nat.add_mul_mod_self_right, Nat.mod_eq_of_lt hx], show (y * W + x) / W = y by rw [Nat.add_comm, Nat.add_mul_div_right _ _ (by omega), Nat.div_eq_of_lt hx, Nat.zero_add]]
/-- Texel k's bytes. -/
theorem rpre_part (m : Im) (W : Nat) (k : Nat) : ∀ n, k < n → part (rpre m W n) (k * nsz m.f) (nsz m.f) = rtx m ((k % W : Nat) : Int) ((k / W : Nat) : Int) := by
  intro n hn
  obtain ⟨r, hr⟩ : ∃ r, rpre m W n = rpre m W k ++ (rtx m ((k % W : Nat) : Int) ((k / W : Nat) : Int) ++ r) := by
    induction n with
    | zero => omega
    | succ n ih =>
      rcases Nat.lt_or_ge k n with h | h
      · obtain ⟨r, hr⟩ := ih h
        exact ⟨r ++ rtx m ((n % W : Nat) : Int) ((n / W : Nat) : Int), by rw [rpre, hr]; simp only [List.append_assoc]⟩
      · obtain rfl : k = n := by omega
        exact ⟨[], by rw [rpre, List.append_nil]⟩
  have h1 := rpre_len m W k
  have h2 := rtx_len m ((k % W : Nat) : Int) ((k / W : Nat) : Int)
  unfold part
  rw [hr, ← h1, List.drop_left, ← h2, List.take_left]

/-- The next level. -/
def Im.red (m : Im) : Im := if m.ok ∧ ¬ (m.w = 1 ∧ m.h = 1) then ⟨m.f, hfs m.w 1, hfs m.h 1, rpre m (hfs m.w 1).toNat ((hfs m.h 1).toNat * (hfs m.w 1).toNat)⟩ else m
theorem red_yes {m : Im} (h : m.ok) (h1 : ¬ (m.w = 1 ∧ m.h = 1)) : m.red = ⟨m.f, hfs m.w 1, hfs m.h 1, rpre m (hfs m.w 1).toNat ((hfs m.h 1).toNat * (hfs m.w 1).toNat)⟩ := if_pos ⟨h, h1⟩
theorem red_no {m : Im} (h : ¬ (m.ok ∧ ¬ (m.w = 1 ∧ m.h = 1))) : m.red = m := if_neg h
theorem red_ok {m : Im} (h : m.ok) : m.red.ok := by
  by_cases h1 : m.w = 1 ∧ m.h = 1
  · rw [red_no (fun k => k.2 h1)]; exact h
  · rw [red_yes h h1]
    have hw := hfs_side (n := m.w) h.2.1 1
    have hh := hfs_side (n := m.h) h.2.2.1 1
    refine ⟨h.1, hw, hh, ?_⟩
    show ((rpre m _ _).length : Int) = _
    rw [rpre_len]
    show (((hfs m.h 1).toNat * (hfs m.w 1).toNat * nsz m.f : Nat) : Int) = hfs m.w 1 * hfs m.h 1 * (nsz m.f : Nat)
    rw [Int.natCast_mul, Int.natCast_mul, Int.toNat_of_nonneg (by have := hh.1; omega), Int.toNat_of_nonneg (by have := hw.1; omega), Int.mul_comm (hfs m.h 1)]
theorem red_f (m : Im) : m.red.f = m.f := by unfold Im.red; split <;> rfl

/-! ### the chain -/
def chn (m : Im) : Nat → Im
  | 0 => m
  | k + 1 => (chn m k).red
theorem chn_ok {m : Im} (h : m.ok) (k : Nat) : (chn m k).ok := by
  induction k with
  | zero => exact h
  | succ k ih => exact red_ok ih
theorem chn_f (m : Im) (k : Nat) : (chn m k).f = m.f := by
  induction k with
  | zero => rfl
  | succ k ih => rw [chn, red_f, ih]
theorem chn_size {m : Im} (h : m.ok) : ∀ k, k < nlv m.w m.h → (chn m k).w = hfs m.w k ∧ (chn m k).h = hfs m.h k := by
  intro k
  induction k with
  | zero => intro _; exact ⟨rfl, rfl⟩
  | succ k ih =>
    intro hk
    obtain ⟨h1, h2⟩ := ih (by omega)
    have hd := nlv_deep h.2.1 h.2.2.1 hk
    rw [chn, red_yes (chn_ok h k) (by rw [h1, h2]; exact hd), h1, h2]
    exact ⟨rfl, rfl⟩
def chain (m : Im) : List Im := (List.range (nlv m.w m.h)).map (chn m)

/-- A valid texture. -/
def tok (ts : List Im) : Prop := ∃ m0 r, ts = m0 :: r ∧ ∀ i m, ts[i]? = some m → m.ok ∧ m.f = m0.f ∧ i < nlv m0.w m0.h ∧ m.w = hfs m0.w i ∧ m.h = hfs m0.h i
theorem chain_tok {m : Im} (h : m.ok) : tok (chain m) := by
  have hp := nlv_pos h.2.1 h.2.2.1
  obtain ⟨k, hk⟩ : ∃ k, nlv m.w m.h = k + 1 := ⟨nlv m.w m.h - 1, by omega⟩
  refine ⟨m, ((List.range k).map (· + 1)).map (chn m), ?_, fun i t ht => ?_⟩
  · unfold chain
    rw [hk, List.range_succ_eq_map]
    simp [chn, Function.comp_def]
  · unfold chain at ht
    rw [List.getElem?_map, Option.map_eq_some_iff] at ht
    obtain ⟨j, hj, rfl⟩ := ht
    obtain ⟨hlt, hje⟩ := List.getElem?_eq_some_iff.1 hj
    rw [List.getElem_range] at hje
    subst hje
    rw [List.length_range] at hlt
    have hs := chn_size h i hlt
    exact ⟨chn_ok h i, chn_f m i, hlt, hs.1, hs.2⟩

/-! ### one color -/
theorem dvl_rng (n : Int) : -536870911 ≤ dv n ∧ dv n ≤ 536870911 := by
  have h := decu_bd 5 10 (pexp 5 10 n) (pman 10 n)
  have h2 : -536870911 ≤ decm 5 10 (pexp 5 10 n) (pman 10 n) ∧ decm 5 10 (pexp 5 10 n) (pman 10 n) ≤ 536870911 := by
    unfold decm
    split
    · split <;> omega
    · exact h
  unfold dv decv
  split <;> omega
theorem fields_bd (f n : Int) (i : Nat) : 0 ≤ fields f n i ∧ fields f n i ≤ 65536 := by
  have h := fun n b => fromv_rng (n := n) (b := b)
  unfold fields
  repeat' split
  all_goals first | omega | exact h _ _
theorem dec_bd (f : Int) (l : List Int) (i : Nat) : -536870911 ≤ dec f l i ∧ dec f l i ≤ 536870911 := by
  unfold dec
  split
  · omega
  · split
    · split
      · exact dvl_rng _
      · split <;> omega
    · split
      · exact dvl_rng _
      · have := fields_bd f (litv l) i
        omega
theorem get_bd (m : Im) (x y : Int) (i : Nat) : -536870911 ≤ m.get x y i ∧ m.get x y i ≤ 536870911 := by
  unfold Im.get
  split
  · exact dec_bd _ _ _
  · omega
theorem gt4_bd (m : Im) (x y : Int) (i : Nat) : -2147483644 ≤ gt4 m x y i ∧ gt4 m x y i ≤ 2147483644 := by
  have h1 := get_bd m (2 * x) (2 * y) i
  have h2 := get_bd m (if m.w - 1 < 2 * x + 1 then m.w - 1 else 2 * x + 1) (2 * y) i
  have h3 := get_bd m (2 * x) (if m.h - 1 < 2 * y + 1 then m.h - 1 else 2 * y + 1) i
  have h4 := get_bd m (if m.w - 1 < 2 * x + 1 then m.w - 1 else 2 * x + 1) (if m.h - 1 < 2 * y + 1 then m.h - 1 else 2 * y + 1) i
  unfold gt4
  omega

end Go.Proofs.Ytcjlgfadjedgbaa
