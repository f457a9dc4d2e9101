/- A texture whose texels all have one color has it everywhere. No function of a program is named here. -/
import Derived.Test.YtoipmldbjciinaaS14
namespace Go.Proofs.Ytoipmldbjciinaa
open Go.RowKit Go.Sort
set_option linter.unusedVariables false

/-- A texel's bytes, its color, the bytes of an image of which k of N texels are filled. -/
def wtx : List Int := [255, 51, 0, 255]
def wv (i : Nat) : Int := dec 2 wtx i
def dk (N k : Nat) : List Int := rpL wtx k ++ List.replicate (4 * (N - k)) 0
def wlv (n : Nat) : Im := ⟨2, n, n, rpL wtx (n * n)⟩

theorem wv_0 : wv 0 = 65536 := by decide +kernel
theorem wv_1 : wv 1 = 13107 := by decide +kernel
theorem wv_2 : wv 2 = 0 := by decide +kernel
theorem wv_3 : wv 3 = 65536 := by decide +kernel

theorem dk_len {N k : Nat} (h : k ≤ N) : (dk N k).length = 4 * N := by
  unfold dk
  rw [List.length_append, rpL_len, List.length_replicate, show wtx.length = 4 from rfl]
  omega
theorem dk_full (N : Nat) : dk N N = rpL wtx N := by
  unfold dk
  rw [Nat.sub_self, Nat.mul_zero, List.replicate_zero, List.append_nil]
theorem dk_zero (N : Nat) : dk N 0 = List.replicate (4 * N) 0 := rfl
theorem dk_fill {N k : Nat} (h : k < N) : (((dk N k).set (4 * k) 255).set (4 * k + 1) 51).set (4 * k + 3) 255 = dk N (k + 1) := by
  have e : List.replicate (4 * (N - k)) (0 : Int) = 0 :: 0 :: 0 :: 0 :: List.replicate (4 * (N - (k + 1))) 0 := by
    rw [show 4 * (N - k) = 4 * (N - (k + 1)) + 1 + 1 + 1 + 1 by omega]
    rfl
  have hl : (rpL wtx k).length = 4 * k := by rw [rpL_len, show wtx.length = 4 from rfl]; omega
  unfold dk
  rw [e, rpL]
  rw [List.set_append_right _ _ (by omega), List.set_append_right _ _ (by omega), List.set_append_right _ _ (by omega), hl, Nat.sub_self, show 4 * k + 1 - 4 * k = 1 by omega, show 4 * k + 3 - 4 * k = 3 by omega, List.append_assoc]
  rfl
theorem wtx_rng : ∀ x ∈ wtx, (0 : Int) ≤ x ∧ x ≤ 255 := by decide
theorem dk_rng (N k : Nat) : ∀ x ∈ dk N k, (0 : Int) ≤ x ∧ x ≤ 255 := by
  intro x hx
  unfold dk at hx
  rcases List.mem_append.1 hx with hx | hx
  · exact rpL_rng wtx_rng k x hx
  · have := (List.mem_replicate.1 hx).2
    omega

theorem wlv_ok {n : Nat} (h : 1 ≤ n ∧ n ≤ 64) : (wlv n).ok := by
  refine ⟨by show nsz 2 ≠ 0; decide, ⟨by show (1 : Int) ≤ (n : Int); omega, by show (n : Int) ≤ 64; omega⟩, ⟨by show (1 : Int) ≤ (n : Int); omega, by show (n : Int) ≤ 64; omega⟩, ?_⟩
  show ((rpL wtx (n * n)).length : Int) = (n : Int) * n * (nsz 2 : Nat)
  rw [rpL_len, Int.natCast_mul, Int.natCast_mul]
  rfl

theorem rpLw_part (k i : Nat) (h : i < k) : part (rpL wtx k) (i * 4) 4 = wtx := by
  obtain ⟨j, rfl⟩ : ∃ j, k = i + 1 + j := ⟨k - i - 1, by omega⟩
  unfold part
  rw [rpL_add, rpL, List.append_assoc, List.drop_left' (by rw [rpL_len]; rfl)]
  exact List.take_left' rfl

theorem wlv_get {n : Nat} (h : 1 ≤ n ∧ n ≤ 64) {x y : Int} (hx : 0 ≤ x ∧ x < n) (hy : 0 ≤ y ∧ y < n) (i : Nat) : (wlv n).get x y i = wv i := by
  have k : (wlv n).ins x y := ⟨wlv_ok h, hx, hy⟩
  unfold Im.get
  rw [if_pos k]
  unfold Im.txl Im.off
  rw [if_pos k]
  obtain ⟨X, rfl⟩ : ∃ X : Nat, x = X := ⟨x.toNat, by omega⟩
  obtain ⟨Y, rfl⟩ : ∃ Y : Nat, y = Y := ⟨y.toNat, by omega⟩
  have e : (((Y : Int) * (wlv n).w + (X : Int)) * ((nsz (wlv n).f : Nat) : Int)).toNat = (Y * n + X) * 4 := by
    show (((Y : Int) * (n : Int) + (X : Int)) * ((4 : Nat) : Int)).toNat = _
    rw [← Int.natCast_mul, ← Int.natCast_add, ← Int.natCast_mul, Int.toNat_natCast]
  rw [e]
  have hYX : Y * n + X < n * n := by
    have h1 : (Y + 1) * n ≤ n * n := Nat.mul_le_mul_right _ (by omega)
    rw [Nat.add_mul, Nat.one_mul] at h1
    omega
  show dec 2 (part (rpL wtx (n * n)) ((Y * n + X) * 4) 4) i = _
  rw [rpLw_part _ _ hYX]
  rfl

/-- The levels of such a texture, the first j of L. -/
def Wts (L j : Nat) (ts : List Tx) : Prop := ts.length = j ∧ ∀ i, i < j → (ts.getD i default).m = wlv (2 ^ (L - 1 - i))

theorem Wts.zero (L : Nat) : Wts L 0 [] := ⟨rfl, fun i h => absurd h (by omega)⟩
theorem Wts.more {L j : Nat} {ts : List Tx} (h : Wts L j ts) {t : Tx} (ht : t.m = wlv (2 ^ (L - 1 - j))) : Wts L (j + 1) (ts ++ [t]) := by
  obtain ⟨hl, hi⟩ := h
  refine ⟨by rw [List.length_append, hl]; rfl, fun i hij => ?_⟩
  rcases Nat.lt_or_ge i j with k | k
  · have := hi i k
    unfold List.getD at this ⊢
    rw [List.getElem?_append_left (by omega)]
    exact this
  · obtain rfl : i = j := by omega
    unfold List.getD
    rw [List.getElem?_append_right (by omega), hl, Nat.sub_self]
    exact ht

theorem wsz : ∀ L, L < 8 → ∀ j, j < L → (1 ≤ 2 ^ (L - 1 - j) ∧ 2 ^ (L - 1 - j) ≤ 64) ∧ lsz ((2 ^ (L - 1) : Nat) : Int) ((2 ^ (L - 1) : Nat) : Int) (j : Nat) = (((2 ^ (L - 1 - j) : Nat) : Int), ((2 ^ (L - 1 - j) : Nat) : Int)) := by decide +kernel

theorem tvK_mk {ts : List Tx} : ∀ n, (∀ j, j < n → lok (ts.getD 0 default).m j (ts.getD j default).m = true) → tvK ts n = true := by
  intro n
  induction n with
  | zero => intro _; rfl
  | succ n ih =>
    intro h
    rw [tvK, Bool.and_eq_true]
    exact ⟨ih fun j hj => h j (by omega), h n (by omega)⟩

theorem Wts.tv {L : Nat} {ts : List Tx} (h : Wts L L ts) (h1 : 1 ≤ L) (h7 : L ≤ 7) : Go.Proofs.Ytoipmldbjciinaa.tv ts = true := by
  obtain ⟨hl, hi⟩ := h
  unfold Go.Proofs.Ytoipmldbjciinaa.tv
  rw [Bool.and_eq_true]
  refine ⟨decide_eq_true (by omega), tvK_mk _ fun j hj => ?_⟩
  have h0 := hi 0 (by omega)
  have hj' := hi j (by omega)
  obtain ⟨hs, hz⟩ := wsz L (by omega) j (by omega)
  unfold lok
  rw [h0, hj']
  refine decide_eq_true ⟨wlv_ok hs, rfl, ?_, ?_⟩
  · show ((2 ^ (L - 1 - j) : Nat) : Int) = (lsz ((2 ^ (L - 1 - 0) : Nat) : Int) ((2 ^ (L - 1 - 0) : Nat) : Int) j).1
    rw [Nat.sub_zero, hz]
  · show ((2 ^ (L - 1 - j) : Nat) : Int) = (lsz ((2 ^ (L - 1 - 0) : Nat) : Int) ((2 ^ (L - 1 - 0) : Nat) : Int) j).2
    rw [Nat.sub_zero, hz]

theorem Wts.can {L : Nat} {ts : List Tx} {s : Nat → Int} {k : Int} (h : Wts L L ts) (h1 : 1 ≤ L) (h7 : L ≤ 7) (hs : SV s) (hk : 0 ≤ k ∧ k < L) : Go.Proofs.Ytoipmldbjciinaa.can ts s k :=
  ⟨⟨hk.1, by rw [h.1]; exact hk.2⟩, hs, h.tv h1 h7⟩

theorem lerp_w (i : Nat) (hi : i < 4) (t : Int) : lerpv (wv i) (wv i) t = wv i := by
  unfold lerpv
  rw [subv_self, mulv_comm, mulv_zero, addv_zero]
  match i, hi with
  | 0, _ => rw [wv_0]; rfl
  | 1, _ => rw [wv_1]; rfl
  | 2, _ => rw [wv_2]; rfl
  | 3, _ => rw [wv_3]; rfl

section
variable {L : Nat} {ts : List Tx} {s : Nat → Int} (h : Wts L L ts) (h1 : 1 ≤ L) (h7 : L ≤ 7) (hs : SV s) (h3 : s 0 ≠ 4 ∧ s 1 ≠ 4)
include h h1 h7 hs h3

theorem col_w (x y : Int) {k : Int} (hk : 0 ≤ k ∧ k < L) (i : Nat) : col ts s x y k i = wv i := by
  obtain ⟨⟨m0, m1, _⟩, _⟩ := id hs
  obtain ⟨K, rfl⟩ : ∃ K : Nat, k = K := ⟨k.toNat, by omega⟩
  have hm := h.2 K (by omega)
  obtain ⟨hz, _⟩ := wsz L (by omega) K (by omega)
  have hlv : lvl ts (K : Int) = wlv (2 ^ (L - 1 - K)) := by unfold lvl; rw [Int.toNat_natCast]; exact hm
  generalize 2 ^ (L - 1 - K) = n at *
  have r0 := inside_out (i := x) (s := (n : Int)) (by omega) (m := s 0) (by omega)
  have r1 := inside_out (i := y) (s := (n : Int)) (by omega) (m := s 1) (by omega)
  unfold col
  rw [hlv]
  show (if idxv (s 0) x (n : Int) < 0 ∨ idxv (s 1) y (n : Int) < 0 then s (5 + i) else tgt ts (idxv (s 0) x (n : Int)) (idxv (s 1) y (n : Int)) K i) = _
  rw [if_neg (by omega)]
  unfold tgt
  rw [if_pos ⟨by omega, by rw [h.1]; omega⟩, Int.toNat_natCast, hm]
  exact wlv_get hz r0 r1 i

theorem slv_w (u v : Int) {k f : Int} (hk : 0 ≤ k ∧ k < L) (hf : f = 1 ∨ f = 2) (i : Nat) (hi : i < 4) : slv ts s u v k f i = wv i := by
  unfold slv
  rw [if_pos (h.can h1 h7 hs hk)]
  rcases hf with rfl | rfl
  · rw [if_pos rfl]
    exact col_w h h1 h7 hs h3 _ _ hk i
  · rw [if_neg (by decide), if_pos rfl]
    unfold btw
    simp only [col_w h h1 h7 hs h3 _ _ hk i, lerp_w i hi]

theorem smv_w (u v l : Int) (i : Nat) (hi : i < 4) : smv ts s u v l i = wv i := by
  have hd := lodv_rng s l
  have hf : sfil s (lodv s l) = 1 ∨ sfil s (lodv s l) = 2 := by
    obtain ⟨⟨_, _, m2, m3, _⟩, _⟩ := hs
    unfold sfil
    split <;> assumption
  have hm : ∀ k : Int, 0 ≤ k → 0 ≤ mn k ((ts.length : Int) - 1) ∧ mn k ((ts.length : Int) - 1) < L := fun k hk => by
    have := h.1
    unfold mn
    split <;> omega
  unfold smv
  split
  · exact slv_w h h1 h7 hs h3 u v (hm _ (by omega)) hf i hi
  · rw [slv_w h h1 h7 hs h3 u v (hm _ (by omega)) hf i hi, slv_w h h1 h7 hs h3 u v (hm _ (by omega)) hf i hi]
    exact lerp_w i hi _
end

end Go.Proofs.Ytoipmldbjciinaa
