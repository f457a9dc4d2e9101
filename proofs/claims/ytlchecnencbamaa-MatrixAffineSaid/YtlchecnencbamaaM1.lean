/- What Transpose returns, of the code and of the reference. -/
import Derived.Test.YtlchecnencbamaaMat
import Derived.Test.YtlchecnencbamaaVRef3
namespace Go.Proofs.Ytlchecnencbamaa
open Go.RowKit Go.Sort

/-- The matrix whose rows are the columns of m. -/
def tr (m : Nat → Int) (k : Nat) : Int := m (4 * (k % 4) + k / 4)
/-- What lies in it behind n rounds of the code's two loops. -/
def trp (m : Nat → Int) (n k : Nat) : Int := if 4 * (k % 4) + k / 4 < n then m (4 * (k % 4) + k / 4) else 0
/-- What lies behind n rounds that go through the cells in order. -/
def upto (f : Nat → Int) (n k : Nat) : Int := if k < n then f k else 0

theorem trp_all (m : Nat → Int) : ∀ k, k < 16 → trp m 16 k = tr m k := fun k hk => if_pos (by omega)

theorem upto_all (f : Nat → Int) : ∀ k, k < 16 → upto f 16 k = f k := fun _ hk => if_pos hk

theorem mat_to {W : World} {b : Nat} {m n : Nat → Int} (c : (∀ i, i < 16 → W.cell? ⟨b, i, none⟩ = some (.int .i64 (m i)))) (h : ∀ k, k < 16 → m k = n k) : (∀ i, i < 16 → W.cell? ⟨b, i, none⟩ = some (.int .i64 (n i))) := fun i hi => by rw [c i hi, h i hi]

theorem zero_trp {W : World} {b : Nat} (m : Nat → Int) (c : (∀ i, i < 16 → W.cell? ⟨b, i, none⟩ = some (.int .i64 0))) : (∀ i, i < 16 → W.cell? ⟨b, i, none⟩ = some (.int .i64 ((trp m 0) i))) := mat_to (m := fun _ => 0) c (fun _ _ => (if_neg (by omega)).symm)

theorem zero_upto {W : World} {b : Nat} (m : Nat → Int) (c : (∀ i, i < 16 → W.cell? ⟨b, i, none⟩ = some (.int .i64 0))) : (∀ i, i < 16 → W.cell? ⟨b, i, none⟩ = some (.int .i64 ((upto m 0) i))) := mat_to (m := fun _ => 0) c (fun _ _ => (if_neg (by omega)).symm)

theorem trp_set {W : World} {b n p : Nat} {m : Nat → Int} {v : Int} (c : (∀ i, i < 16 → W.cell? ⟨b, i, none⟩ = some (.int .i64 ((trp m n) i)))) (hp : 4 * (p % 4) + p / 4 = n) (hp' : p < 16) (hv : v = m n) : (∀ i, i < 16 → (W.setCell ⟨b, p, none⟩ (.int .i64 v)).cell? ⟨b, i, none⟩ = some (.int .i64 ((trp m (n + 1)) i))) := by
  intro i hi
  by_cases h : i = p
  · subst h
    rw [World.cell?_setCell_same _ _ _ (c i hi), hv]
    unfold trp; rw [hp, if_pos (by omega)]
  · rw [World.cell?_setCell_other _ _ _ _ (by intro e; injection e; omega), c i hi]
    have e : trp m n i = trp m (n + 1) i := by unfold trp; split <;> split <;> first | rfl | omega
    rw [e]

theorem upto_set {W : World} {b n : Nat} {m : Nat → Int} {v : Int} (c : (∀ i, i < 16 → W.cell? ⟨b, i, none⟩ = some (.int .i64 ((upto m n) i)))) (hp : n < 16) (hv : v = m n) : (∀ i, i < 16 → (W.setCell ⟨b, n, none⟩ (.int .i64 v)).cell? ⟨b, i, none⟩ = some (.int .i64 ((upto m (n + 1)) i))) := by
  intro i hi
  by_cases h : i = n
  · subst h
    rw [World.cell?_setCell_same _ _ _ (c i hi), hv]
    unfold upto; rw [if_pos (by omega)]
  · rw [World.cell?_setCell_other _ _ _ _ (by intro e; injection e; omega), c i hi]
    have e : upto m n i = upto m (n + 1) i := by unfold upto; split <;> split <;> first | rfl | omega
    rw [e]

theorem matT : MatType Try.prog 23 := ⟨⟨3, Try.underlying23⟩, by kernel_rfl⟩

theorem argsT (w : World) (m : Nat → Int) (t : TypeId) :
    Below w.heap.size w (((w.alloc (.cells (mats m) t)).alloc (.cells #[.int .i64 0, .int .i64 0, .int .i64 0, .int .i64 0, .int .i64 0, .int .i64 0, .int .i64 0, .int .i64 0, .int .i64 0, .int .i64 0, .int .i64 0, .int .i64 0, .int .i64 0, .int .i64 0, .int .i64 0, .int .i64 0] t)).alloc (.cells #[.int .i64 0, .int .i64 0, .int .i64 0, .int .i64 0, .int .i64 0, .int .i64 0, .int .i64 0, .int .i64 0, .int .i64 0, .int .i64 0, .int .i64 0, .int .i64 0, .int .i64 0, .int .i64 0, .int .i64 0, .int .i64 0] t)) ∧
    (∀ i, i < 16 → (((w.alloc (.cells (mats m) t)).alloc (.cells #[.int .i64 0, .int .i64 0, .int .i64 0, .int .i64 0, .int .i64 0, .int .i64 0, .int .i64 0, .int .i64 0, .int .i64 0, .int .i64 0, .int .i64 0, .int .i64 0, .int .i64 0, .int .i64 0, .int .i64 0, .int .i64 0] t)).alloc (.cells #[.int .i64 0, .int .i64 0, .int .i64 0, .int .i64 0, .int .i64 0, .int .i64 0, .int .i64 0, .int .i64 0, .int .i64 0, .int .i64 0, .int .i64 0, .int .i64 0, .int .i64 0, .int .i64 0, .int .i64 0, .int .i64 0] t)).cell? ⟨w.heap.size, i, none⟩ = some (.int .i64 (m i))) ∧
    (∀ i, i < 16 → (((w.alloc (.cells (mats m) t)).alloc (.cells #[.int .i64 0, .int .i64 0, .int .i64 0, .int .i64 0, .int .i64 0, .int .i64 0, .int .i64 0, .int .i64 0, .int .i64 0, .int .i64 0, .int .i64 0, .int .i64 0, .int .i64 0, .int .i64 0, .int .i64 0, .int .i64 0] t)).alloc (.cells #[.int .i64 0, .int .i64 0, .int .i64 0, .int .i64 0, .int .i64 0, .int .i64 0, .int .i64 0, .int .i64 0, .int .i64 0, .int .i64 0, .int .i64 0, .int .i64 0, .int .i64 0, .int .i64 0, .int .i64 0, .int .i64 0] t)).cell? ⟨w.heap.size + 1, i, none⟩ = some (.int .i64 0)) ∧
    (∀ i, i < 16 → (((w.alloc (.cells (mats m) t)).alloc (.cells #[.int .i64 0, .int .i64 0, .int .i64 0, .int .i64 0, .int .i64 0, .int .i64 0, .int .i64 0, .int .i64 0, .int .i64 0, .int .i64 0, .int .i64 0, .int .i64 0, .int .i64 0, .int .i64 0, .int .i64 0, .int .i64 0] t)).alloc (.cells #[.int .i64 0, .int .i64 0, .int .i64 0, .int .i64 0, .int .i64 0, .int .i64 0, .int .i64 0, .int .i64 0, .int .i64 0, .int .i64 0, .int .i64 0, .int .i64 0, .int .i64 0, .int .i64 0, .int .i64 0, .int .i64 0] t)).cell? ⟨w.heap.size + 2, i, none⟩ = some (.int .i64 0)) ∧
    (∀ i, i < 16 → (((w.alloc (.cells (mats m) t)).alloc (.cells #[.int .i64 0, .int .i64 0, .int .i64 0, .int .i64 0, .int .i64 0, .int .i64 0, .int .i64 0, .int .i64 0, .int .i64 0, .int .i64 0, .int .i64 0, .int .i64 0, .int .i64 0, .int .i64 0, .int .i64 0, .int .i64 0] t)).alloc (.cells #[.int .i64 0, .int .i64 0, .int .i64 0, .int .i64 0, .int .i64 0, .int .i64 0, .int .i64 0, .int .i64 0, .int .i64 0, .int .i64 0, .int .i64 0, .int .i64 0, .int .i64 0, .int .i64 0, .int .i64 0, .int .i64 0] t)).frozen? ⟨w.heap.size + 1, i, none⟩ = false) ∧
    (∀ i, i < 16 → (((w.alloc (.cells (mats m) t)).alloc (.cells #[.int .i64 0, .int .i64 0, .int .i64 0, .int .i64 0, .int .i64 0, .int .i64 0, .int .i64 0, .int .i64 0, .int .i64 0, .int .i64 0, .int .i64 0, .int .i64 0, .int .i64 0, .int .i64 0, .int .i64 0, .int .i64 0] t)).alloc (.cells #[.int .i64 0, .int .i64 0, .int .i64 0, .int .i64 0, .int .i64 0, .int .i64 0, .int .i64 0, .int .i64 0, .int .i64 0, .int .i64 0, .int .i64 0, .int .i64 0, .int .i64 0, .int .i64 0, .int .i64 0, .int .i64 0] t)).frozen? ⟨w.heap.size + 2, i, none⟩ = false) := by
  have BB : Below w.heap.size w w := Below.refl _ _
  have hsz0 : w.heap.size = w.heap.size := by simp
  obtain ⟨B, BB⟩ := box_on BB (mats m) t
  have M0 := mat_box w m t
  have Z0 := mat_boxz w m t
  rw [hsz0] at M0 Z0
  have hsz1 : (w.alloc (.cells (mats m) t)).heap.size = w.heap.size + 1 := by simp
  obtain ⟨B, BB⟩ := box_on BB #[.int .i64 0, .int .i64 0, .int .i64 0, .int .i64 0, .int .i64 0, .int .i64 0, .int .i64 0, .int .i64 0, .int .i64 0, .int .i64 0, .int .i64 0, .int .i64 0, .int .i64 0, .int .i64 0, .int .i64 0, .int .i64 0] t
  replace Z0 := matz_below B M0 Z0
  replace M0 := mat_below B M0
  have M1 := mat_box (w.alloc (.cells (mats m) t)) (fun _ => 0) t
  have Z1 := mat_boxz (w.alloc (.cells (mats m) t)) (fun _ => 0) t
  rw [hsz1] at M1 Z1
  have hsz2 : ((w.alloc (.cells (mats m) t)).alloc (.cells #[.int .i64 0, .int .i64 0, .int .i64 0, .int .i64 0, .int .i64 0, .int .i64 0, .int .i64 0, .int .i64 0, .int .i64 0, .int .i64 0, .int .i64 0, .int .i64 0, .int .i64 0, .int .i64 0, .int .i64 0, .int .i64 0] t)).heap.size = w.heap.size + 2 := by simp
  obtain ⟨B, BB⟩ := box_on BB #[.int .i64 0, .int .i64 0, .int .i64 0, .int .i64 0, .int .i64 0, .int .i64 0, .int .i64 0, .int .i64 0, .int .i64 0, .int .i64 0, .int .i64 0, .int .i64 0, .int .i64 0, .int .i64 0, .int .i64 0, .int .i64 0] t
  replace Z0 := matz_below B M0 Z0
  replace Z1 := matz_below B M1 Z1
  replace M0 := mat_below B M0
  replace M1 := mat_below B M1
  have M2 := mat_box ((w.alloc (.cells (mats m) t)).alloc (.cells #[.int .i64 0, .int .i64 0, .int .i64 0, .int .i64 0, .int .i64 0, .int .i64 0, .int .i64 0, .int .i64 0, .int .i64 0, .int .i64 0, .int .i64 0, .int .i64 0, .int .i64 0, .int .i64 0, .int .i64 0, .int .i64 0] t)) (fun _ => 0) t
  have Z2 := mat_boxz ((w.alloc (.cells (mats m) t)).alloc (.cells #[.int .i64 0, .int .i64 0, .int .i64 0, .int .i64 0, .int .i64 0, .int .i64 0, .int .i64 0, .int .i64 0, .int .i64 0, .int .i64 0, .int .i64 0, .int .i64 0, .int .i64 0, .int .i64 0, .int .i64 0, .int .i64 0] t)) (fun _ => 0) t
  rw [hsz2] at M2 Z2
  exact ⟨BB, M0, M1, M2, Z1, Z2⟩

def TS (w : World) (m g : Nat → Int) (W : World) : Prop := Below w.heap.size w W ∧ (∀ i, i < 16 → W.cell? ⟨w.heap.size, i, none⟩ = some (.int .i64 (m i))) ∧ (∀ i, i < 16 → W.cell? ⟨w.heap.size + 1, i, none⟩ = some (.int .i64 0)) ∧ (∀ i, i < 16 → W.cell? ⟨w.heap.size + 1 + 1, i, none⟩ = some (.int .i64 (g i))) ∧ (∀ i, i < 16 → W.frozen? ⟨w.heap.size + 1, i, none⟩ = false) ∧ (∀ i, i < 16 → W.frozen? ⟨w.heap.size + 1 + 1, i, none⟩ = false)

set_option maxRecDepth 100000 in
set_option maxHeartbeats 4000000 in
theorem transpose_b (m : Nat → Int) (w : World) :
    Calls Try.prog 16 #[.agg (mats m)] w fun e w' => e = .returned (.agg (mats (tr m))) ∧ Below w.heap.size w w' := by
  obtain ⟨BB, M0, M1, M2, Z1, Z2⟩ := argsT w m 23
  go_enter Try.func16, Try.ntmps16
  go_wp2_with fail
  go_loopw [6] (fun i W => ((i = .int .i64 0 ∧ TS w m (trp m 0) W) ∨ (i = .int .i64 1 ∧ TS w m (trp m 4) W) ∨ (i = .int .i64 2 ∧ TS w m (trp m 8) W) ∨ (i = .int .i64 3 ∧ TS w m (trp m 12) W) ∨ (i = .int .i64 4 ∧ TS w m (trp m 16) W))) (fun i _ => (4 - intOf i).toNat)
  case atStart => exact .inl ⟨rfl, BB, M0, M1, zero_trp m M2, Z1, Z2⟩
  case round =>
    clear BB M0 M1 M2 Z1 Z2
    obtain ⟨wo, rfl⟩ : ∃ wo : World, wo = wr := ⟨_, rfl⟩
    rcases hrel with ⟨rfl, hT⟩ | ⟨rfl, hT⟩ | ⟨rfl, hT⟩ | ⟨rfl, hT⟩ | ⟨rfl, hT⟩
    · have HT := Lib.hid hT
      clear hT
      go_wp2_with fail
      go_loopw [9] (fun i W => ((i = .int .i64 0 ∧ TS w m (trp m 0) W) ∨ (i = .int .i64 1 ∧ TS w m (trp m 1) W) ∨ (i = .int .i64 2 ∧ TS w m (trp m 2) W) ∨ (i = .int .i64 3 ∧ TS w m (trp m 3) W) ∨ (i = .int .i64 4 ∧ TS w m (trp m 4) W))) (fun i _ => (4 - intOf i).toNat)
      case atStart => exact .inl ⟨rfl, HT.out⟩
      case round =>
        clear HT
        rcases hrel with ⟨rfl, BB, M0, M1, M2, Z1, Z2⟩ | ⟨rfl, BB, M0, M1, M2, Z1, Z2⟩ | ⟨rfl, BB, M0, M1, M2, Z1, Z2⟩ | ⟨rfl, BB, M0, M1, M2, Z1, Z2⟩ | ⟨rfl, hT⟩
        · go_wp2_with fail
          go_roundw
          case rel => exact .inr (.inl ⟨rfl, BB.setCell (by show w.heap.size ≤ w.heap.size + 1 + 1; omega) _, mat_set_far M0 (by omega), mat_set_far M1 (by omega), trp_set M2 (by decide) (by decide) rfl, matz_set Z1, matz_set Z2⟩)
          case measure => simp [intOf]
        · go_wp2_with fail
          go_roundw
          case rel => exact .inr (.inr (.inl ⟨rfl, BB.setCell (by show w.heap.size ≤ w.heap.size + 1 + 1; omega) _, mat_set_far M0 (by omega), mat_set_far M1 (by omega), trp_set M2 (by decide) (by decide) rfl, matz_set Z1, matz_set Z2⟩))
          case measure => simp [intOf]
        · go_wp2_with fail
          go_roundw
          case rel => exact .inr (.inr (.inr (.inl ⟨rfl, BB.setCell (by show w.heap.size ≤ w.heap.size + 1 + 1; omega) _, mat_set_far M0 (by omega), mat_set_far M1 (by omega), trp_set M2 (by decide) (by decide) rfl, matz_set Z1, matz_set Z2⟩)))
          case measure => simp [intOf]
        · go_wp2_with fail
          go_roundw
          case rel => exact .inr (.inr (.inr (.inr (⟨rfl, BB.setCell (by show w.heap.size ≤ w.heap.size + 1 + 1; omega) _, mat_set_far M0 (by omega), mat_set_far M1 (by omega), trp_set M2 (by decide) (by decide) rfl, matz_set Z1, matz_set Z2⟩))))
          case measure => simp [intOf]
        · have HT := Lib.hid hT
          clear hT
          go_wp2_with fail
          go_roundw
          case rel => exact .inr (.inl ⟨rfl, HT.out⟩)
          case measure => simp [intOf]
    · have HT := Lib.hid hT
      clear hT
      go_wp2_with fail
      go_loopw [9] (fun i W => ((i = .int .i64 0 ∧ TS w m (trp m 4) W) ∨ (i = .int .i64 1 ∧ TS w m (trp m 5) W) ∨ (i = .int .i64 2 ∧ TS w m (trp m 6) W) ∨ (i = .int .i64 3 ∧ TS w m (trp m 7) W) ∨ (i = .int .i64 4 ∧ TS w m (trp m 8) W))) (fun i _ => (4 - intOf i).toNat)
      case atStart => exact .inl ⟨rfl, HT.out⟩
      case round =>
        clear HT
        rcases hrel with ⟨rfl, BB, M0, M1, M2, Z1, Z2⟩ | ⟨rfl, BB, M0, M1, M2, Z1, Z2⟩ | ⟨rfl, BB, M0, M1, M2, Z1, Z2⟩ | ⟨rfl, BB, M0, M1, M2, Z1, Z2⟩ | ⟨rfl, hT⟩
        · go_wp2_with fail
          go_roundw
          case rel => exact .inr (.inl ⟨rfl, BB.setCell (by show w.heap.size ≤ w.heap.size + 1 + 1; omega) _, mat_set_far M0 (by omega), mat_set_far M1 (by omega), trp_set M2 (by decide) (by decide) rfl, matz_set Z1, matz_set Z2⟩)
          case measure => simp [intOf]
        · go_wp2_with fail
          go_roundw
          case rel => exact .inr (.inr (.inl ⟨rfl, BB.setCell (by show w.heap.size ≤ w.heap.size + 1 + 1; omega) _, mat_set_far M0 (by omega), mat_set_far M1 (by omega), trp_set M2 (by decide) (by decide) rfl, matz_set Z1, matz_set Z2⟩))
          case measure => simp [intOf]
        · go_wp2_with fail
          go_roundw
          case rel => exact .inr (.inr (.inr (.inl ⟨rfl, BB.setCell (by show w.heap.size ≤ w.heap.size + 1 + 1; omega) _, mat_set_far M0 (by omega), mat_set_far M1 (by omega), trp_set M2 (by decide) (by decide) rfl, matz_set Z1, matz_set Z2⟩)))
          case measure => simp [intOf]
        · go_wp2_with fail
          go_roundw
          case rel => exact .inr (.inr (.inr (.inr (⟨rfl, BB.setCell (by show w.heap.size ≤ w.heap.size + 1 + 1; omega) _, mat_set_far M0 (by omega), mat_set_far M1 (by omega), trp_set M2 (by decide) (by decide) rfl, matz_set Z1, matz_set Z2⟩))))
          case measure => simp [intOf]
        · have HT := Lib.hid hT
          clear hT
          go_wp2_with fail
          go_roundw
          case rel => exact .inr (.inr (.inl ⟨rfl, HT.out⟩))
          case measure => simp [intOf]
    · have HT := Lib.hid hT
      clear hT
      go_wp2_with fail
      go_loopw [9] (fun i W => ((i = .int .i64 0 ∧ TS w m (trp m 8) W) ∨ (i = .int .i64 1 ∧ TS w m (trp m 9) W) ∨ (i = .int .i64 2 ∧ TS w m (trp m 10) W) ∨ (i = .int .i64 3 ∧ TS w m (trp m 11) W) ∨ (i = .int .i64 4 ∧ TS w m (trp m 12) W))) (fun i _ => (4 - intOf i).toNat)
      case atStart => exact .inl ⟨rfl, HT.out⟩
      case round =>
        clear HT
        rcases hrel with ⟨rfl, BB, M0, M1, M2, Z1, Z2⟩ | ⟨rfl, BB, M0, M1, M2, Z1, Z2⟩ | ⟨rfl, BB, M0, M1, M2, Z1, Z2⟩ | ⟨rfl, BB, M0, M1, M2, Z1, Z2⟩ | ⟨rfl, hT⟩
        · go_wp2_with fail
          go_roundw
          case rel => exact .inr (.inl ⟨rfl, BB.setCell (by show w.heap.size ≤ w.heap.size + 1 + 1; omega) _, mat_set_far M0 (by omega), mat_set_far M1 (by omega), trp_set M2 (by decide) (by decide) rfl, matz_set Z1, matz_set Z2⟩)
          case measure => simp [intOf]
        · go_wp2_with fail
          go_roundw
          case rel => exact .inr (.inr (.inl ⟨rfl, BB.setCell (by show w.heap.size ≤ w.heap.size + 1 + 1; omega) _, mat_set_far M0 (by omega), mat_set_far M1 (by omega), trp_set M2 (by decide) (by decide) rfl, matz_set Z1, matz_set Z2⟩))
          case measure => simp [intOf]
        · go_wp2_with fail
          go_roundw
          case rel => exact .inr (.inr (.inr (.inl ⟨rfl, BB.setCell (by show w.heap.size ≤ w.heap.size + 1 + 1; omega) _, mat_set_far M0 (by omega), mat_set_far M1 (by omega), trp_set M2 (by decide) (by decide) rfl, matz_set Z1, matz_set Z2⟩)))
          case measure => simp [intOf]
        · go_wp2_with fail
          go_roundw
          case rel => exact .inr (.inr (.inr (.inr (⟨rfl, BB.setCell (by show w.heap.size ≤ w.heap.size + 1 + 1; omega) _, mat_set_far M0 (by omega), mat_set_far M1 (by omega), trp_set M2 (by decide) (by decide) rfl, matz_set Z1, matz_set Z2⟩))))
          case measure => simp [intOf]
        · have HT := Lib.hid hT
          clear hT
          go_wp2_with fail
          go_roundw
          case rel => exact .inr (.inr (.inr (.inl ⟨rfl, HT.out⟩)))
          case measure => simp [intOf]
    · have HT := Lib.hid hT
      clear hT
      go_wp2_with fail
      go_loopw [9] (fun i W => ((i = .int .i64 0 ∧ TS w m (trp m 12) W) ∨ (i = .int .i64 1 ∧ TS w m (trp m 13) W) ∨ (i = .int .i64 2 ∧ TS w m (trp m 14) W) ∨ (i = .int .i64 3 ∧ TS w m (trp m 15) W) ∨ (i = .int .i64 4 ∧ TS w m (trp m 16) W))) (fun i _ => (4 - intOf i).toNat)
      case atStart => exact .inl ⟨rfl, HT.out⟩
      case round =>
        clear HT
        rcases hrel with ⟨rfl, BB, M0, M1, M2, Z1, Z2⟩ | ⟨rfl, BB, M0, M1, M2, Z1, Z2⟩ | ⟨rfl, BB, M0, M1, M2, Z1, Z2⟩ | ⟨rfl, BB, M0, M1, M2, Z1, Z2⟩ | ⟨rfl, hT⟩
        · go_wp2_with fail
          go_roundw
          case rel => exact .inr (.inl ⟨rfl, BB.setCell (by show w.heap.size ≤ w.heap.size + 1 + 1; omega) _, mat_set_far M0 (by omega), mat_set_far M1 (by omega), trp_set M2 (by decide) (by decide) rfl, matz_set Z1, matz_set Z2⟩)
          case measure => simp [intOf]
        · go_wp2_with fail
          go_roundw
          case rel => exact .inr (.inr (.inl ⟨rfl, BB.setCell (by show w.heap.size ≤ w.heap.size + 1 + 1; omega) _, mat_set_far M0 (by omega), mat_set_far M1 (by omega), trp_set M2 (by decide) (by decide) rfl, matz_set Z1, matz_set Z2⟩))
          case measure => simp [intOf]
        · go_wp2_with fail
          go_roundw
          case rel => exact .inr (.inr (.inr (.inl ⟨rfl, BB.setCell (by show w.heap.size ≤ w.heap.size + 1 + 1; omega) _, mat_set_far M0 (by omega), mat_set_far M1 (by omega), trp_set M2 (by decide) (by decide) rfl, matz_set Z1, matz_set Z2⟩)))
          case measure => simp [intOf]
        · go_wp2_with fail
          go_roundw
          case rel => exact .inr (.inr (.inr (.inr (⟨rfl, BB.setCell (by show w.heap.size ≤ w.heap.size + 1 + 1; omega) _, mat_set_far M0 (by omega), mat_set_far M1 (by omega), trp_set M2 (by decide) (by decide) rfl, matz_set Z1, matz_set Z2⟩))))
          case measure => simp [intOf]
        · have HT := Lib.hid hT
          clear hT
          go_wp2_with fail
          go_roundw
          case rel => exact .inr (.inr (.inr (.inr (⟨rfl, HT.out⟩))))
          case measure => simp [intOf]
    · obtain ⟨BB, M0, M1, M2, Z1, Z2⟩ := hT
      replace M2 := mat_to M2 (trp_all m)
      clear M0
      go_wp2_with (first | (refine wpList_mload rfl _ _ rfl matT M2 rfl ?_; go_simp) | (refine wpList_mstore rfl 23 _ _ rfl (tr m) rfl rfl (m0 := fun _ => 0) M1 Z1 BB (by omega) matT ?_; intro W' BB' M' Z' _ _ _; clear M1 M2 Z1 Z2 BB))
      exact bodyPost_ret (results_mat Try.results16 matT M' _ rfl) rfl ⟨rfl, BB'⟩

end Go.Proofs.Ytlchecnencbamaa
