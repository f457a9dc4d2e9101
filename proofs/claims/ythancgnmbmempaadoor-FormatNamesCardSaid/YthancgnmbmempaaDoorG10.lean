/- Two calls of the library's at 16. -/
import Derived.Test.YthancgnmbmempaaDoorG9
namespace Go.Proofs.YthancgnmbmempaaDoor
open Go.RowKit Go.Sort

theorem pow16_q (w : World) : Calls Tryd.prog 115 #[.int .i64 16] w fun e w' => e = .returned (.bool true) ∧ w = w' := by
  have e : bits .and .i64 16 15 = 0 := by decide
  go_enter Tryd.func115, Tryd.ntmps115
  go_wp2
  go_ret
  exact ⟨rfl, rfl⟩

theorem tz64_q (w : World) (c : w.cell? ⟨7, 15, none⟩ = some (.int .u8 4)) : Calls Tryd.prog 123 #[.int .u64 16] w fun e w' => e = .returned (.int .i64 4) ∧ w = w' := by
  have e0 : IntKind.u64.wrap (-16) = 18446744073709551600 := by decide
  have e1 : bits .and .u64 16 18446744073709551600 = 16 := by decide
  have e2 : IntKind.u64.wrap (16 * 285870213051353865) = 4573923408821661840 := by decide
  go_enter Tryd.func123, Tryd.ntmps123
  go_wp2
  go_ret
  exact ⟨rfl, rfl⟩

theorem tz_q (w : World) (c : w.cell? ⟨7, 15, none⟩ = some (.int .u8 4)) : Calls Tryd.prog 116 #[.int .u64 16] w fun e w' => e = .returned (.int .i64 4) ∧ w = w' := by
  go_enter Tryd.func116, Tryd.ntmps116
  go_wp2_with (go_at_call 123; refine (tz64_q _ c).mono ?_; rintro _ _ ⟨rfl, rfl⟩)
  go_ret
  exact ⟨rfl, rfl⟩

/-- The digits of a number to the base 16. -/
def hxd (u : Nat) : List Int := if u < 16 then [hexd u] else hxd (u / 16) ++ [hexd (u % 16)]
termination_by u
decreasing_by omega

theorem hxd_lt {u : Nat} (h : u < 16) : hxd u = [hexd u] := by rw [hxd, if_pos h]
theorem hxd_ge {u : Nat} (h : 16 ≤ u) : hxd u = hxd (u / 16) ++ [hexd (u % 16)] := by rw [hxd, if_neg (by omega)]

theorem hxd_pos (u : Nat) : 1 ≤ (hxd u).length := by
  by_cases h : u < 16
  · rw [hxd_lt h]; simp
  · rw [hxd_ge (by omega)]; simp

theorem pad_hexs (k : Nat) : ∀ u : Nat, u < 16 ^ k → 1 ≤ k → (hxd u).length ≤ k ∧ List.replicate (k - (hxd u).length) 48 ++ hxd u = hexs k u := by
  induction k with
  | zero => intro u _ h; omega
  | succ k ih =>
    intro u hu _
    rw [hexs]
    by_cases h : u < 16
    · rw [hxd_lt h, show u / 16 = 0 by omega, show u % 16 = u by omega]
      refine ⟨by simp, ?_⟩
      rw [List.length_singleton, Nat.add_sub_cancel]
      congr 1
      rcases Nat.eq_zero_or_pos k with rfl | hk
      · rfl
      · have h1 := ih 0 (Nat.pow_pos (by omega)) hk
        rw [← h1.2, hxd_lt (by omega)]
        show List.replicate k (48 : Int) = List.replicate (k - 1) 48 ++ [48]
        rw [← List.replicate_succ']
        congr 1
        omega
    · rw [hxd_ge (by omega)]
      have hk : 1 ≤ k := by
        rcases Nat.eq_zero_or_pos k with rfl | hk
        · simp at hu; omega
        · exact hk
      have h1 := ih (u / 16) (by rw [Nat.pow_succ] at hu; omega) hk
      rw [List.length_append, List.length_singleton]
      refine ⟨by omega, ?_⟩
      rw [← h1.2, show k + 1 - ((hxd (u / 16)).length + 1) = k - (hxd (u / 16)).length by omega, List.append_assoc]

theorem hxd_rng (u : Nat) : ∀ x ∈ hxd u, 0 ≤ x ∧ x ≤ 255 := by
  induction u using Nat.strongRecOn with
  | _ u ih =>
    intro x hx
    by_cases h : u < 16
    · rw [hxd_lt h] at hx
      simp at hx
      subst hx
      exact hexd_rng u h
    · rw [hxd_ge (by omega)] at hx
      rcases List.mem_append.1 hx with hx | hx
      · exact ih (u / 16) (by omega) x hx
      · simp at hx
        subst hx
        exact hexd_rng _ (by omega)

/-! ### the block of sixty-five bytes -/
/-- Block b has sixty-five cells that may be written. -/
def Arr (W : World) (b : Nat) : Prop := ∀ j, j < 65 → (∃ v, W.cell? ⟨b, j, none⟩ = some v) ∧ W.frozen? ⟨b, j, none⟩ = false
/-- From place j on it holds D. -/
def Dig (W : World) (b j : Nat) (D : List Int) : Prop := ∀ q x, D[q]? = some x → W.cell? ⟨b, j + q, none⟩ = some (.int .u8 x)

theorem Arr.below {W W' : World} {b : Nat} (h : Arr W b) (B : Below W.heap.size W W') : Arr W' b := fun j hj => by
  obtain ⟨⟨v, c⟩, f⟩ := h j hj
  exact ⟨⟨v, cell_below B c⟩, frozen_below B c f⟩

theorem Arr.set {W : World} {b k : Nat} {v : Value} (h : Arr W b) (hk : k < 65) : Arr (W.setCell ⟨b, k, none⟩ v) b := fun j hj => by
  obtain ⟨⟨u, c⟩, f⟩ := h j hj
  refine ⟨?_, by rw [World.frozen?_setCell]; exact f⟩
  by_cases e : j = k
  · subst e
    exact ⟨v, World.cell?_setCell_same _ _ _ c⟩
  · exact ⟨u, by rw [World.cell?_setCell_other _ _ _ _ (by intro e2; injection e2; omega)]; exact c⟩

theorem Dig.set {W : World} {b j : Nat} {D : List Int} {x : Int} (h : Dig W b (j + 1) D) (a : Arr W b) (hj : j < 65) : Dig (W.setCell ⟨b, j, none⟩ (.int .u8 x)) b j (x :: D) := fun q y hq => by
  cases q with
  | zero =>
    simp only [List.getElem?_cons_zero, Option.some.injEq] at hq
    subst hq
    obtain ⟨⟨u, c⟩, f⟩ := a j hj
    exact World.cell?_setCell_same _ _ _ c
  | succ q =>
    simp only [List.getElem?_cons_succ] at hq
    rw [World.cell?_setCell_other _ _ _ _ (by intro e2; injection e2; omega)]
    have := h q y hq
    rw [show j + 1 + q = j + (q + 1) by omega] at this
    exact this

theorem and_15 (k : Nat) (h : k < 18446744073709551616) : bits .and .u64 (k : Int) 15 = (k : Int) % 16 := by
  have hm : (BitVec.ofInt 64 15).toNat = 2 ^ 4 - 1 := by decide
  have hk : (BitVec.ofInt 64 (k : Int)).toNat = k := by rw [BitVec.toNat_ofInt]; omega
  have key : (BitVec.ofInt 64 (k : Int) &&& BitVec.ofInt 64 15).toNat = k % 16 := by
    rw [BitVec.toNat_and, hk, hm, Nat.and_two_pow_sub_one_eq_mod]
  show IntKind.u64.wrap ((BitVec.ofInt 64 (k : Int) &&& BitVec.ofInt 64 15).toNat : Nat) = (k : Int) % 16
  rw [key, IntKind.wrap_u64]
  omega

end Go.Proofs.YthancgnmbmempaaDoor
