/- compareEdges, countFirst, edgesOf. -/
import Derived.Test.YtepammildggnmaaJ4
import Derived.Test.YtepammildggnmaaJEMath
import Derived.Test.YtepammildggnmaaTailG
import Derived.Test.YtepammildggnmaaShelf
namespace Go.Proofs.Ytepammildggnmaa
open Go.RowKit Go.Sort Go.ChangeShapes Go.WideShapes
set_option linter.unusedVariables false

/-- An edge's cells. -/
def ed (e : Ed) : List Value := [.int .i64 e.x, .int .i64 e.y]
theorem edEnc : Enc ed 2 := ⟨fun _ => rfl, by decide, fun x v hv => by simp [ed] at hv; rcases hv with rfl | rfl <;> rfl⟩

theorem isNaN_q (x : Int) (w : World) : Calls Try.prog 53 #[.int .i64 x] w fun e w' => e = .returned (.bool false) ∧ w = w' := by
  go_enter Try.func53, Try.ntmps53
  go_wp2
  go_ret
  exact ⟨ret_bool (by simp), rfl⟩

theorem compare_q (x y : Int) (w : World) : Calls Try.prog 40 #[.int .i64 x, .int .i64 y] w fun e w' => e = .returned (.int .i64 (cmpi x y)) ∧ w = w' := by
  rcases (show x < y ∨ ¬ x < y ∧ y < x ∨ ¬ x < y ∧ ¬ y < x by omega) with h | ⟨h, k⟩ | ⟨h, k⟩
  · rw [show cmpi x y = -1 by unfold cmpi; rw [if_pos h]]
    go_enter Try.func40, Try.ntmps40
    go_wp2_with (go_at_call 53; (with_reducible refine (isNaN_q _ _).mono ?_); rintro _ _ ⟨rfl, rfl⟩)
    go_ret
    exact ⟨rfl, rfl⟩
  · rw [show cmpi x y = 1 by unfold cmpi; rw [if_neg h, if_pos k]]
    go_enter Try.func40, Try.ntmps40
    go_wp2_with (go_at_call 53; (with_reducible refine (isNaN_q _ _).mono ?_); rintro _ _ ⟨rfl, rfl⟩)
    go_ret
    exact ⟨rfl, rfl⟩
  · rw [show cmpi x y = 0 by unfold cmpi; rw [if_neg h, if_neg k]]
    go_enter Try.func40, Try.ntmps40
    go_wp2_with (go_at_call 53; (with_reducible refine (isNaN_q _ _).mono ?_); rintro _ _ ⟨rfl, rfl⟩)
    go_ret
    exact ⟨rfl, rfl⟩

theorem or_q (b c : Nat) (x y r : Int) (w : World) (hr : (if x = 0 then y else x) = r) (h0 : w.cell? ⟨b, 0, none⟩ = some (.int .i64 x)) (h1 : w.cell? ⟨b, 1, none⟩ = some (.int .i64 y)) :
    Calls Try.prog 39 #[.slice (some ⟨b, 0, none⟩) 2 c] w fun e w' => e = .returned (.int .i64 r) ∧ w = w' := by
  go_enter Try.func39, Try.ntmps39
  go_wp2
  go_loopw [8] (fun i wr => ∃ k : Nat, k ≤ 2 ∧ i = .int .i64 (k : Int) ∧ (0 < k → x = 0) ∧ (1 < k → y = 0) ∧ w = wr) (fun i _ => 2 - (intOf i).toNat)
  case atStart => exact ⟨0, by omega, rfl, by simp, by simp, by simp⟩
  case round =>
    obtain ⟨k, hk, rfl, hx, hy, rfl⟩ := hrel
    rcases (show k = 0 ∨ k = 1 ∨ k = 2 by omega) with rfl | rfl | rfl
    · by_cases h : x = 0
      · subst h
        go_wp2
        go_roundw
        case rel => exact ⟨1, by omega, rfl, by simp, by simp, by simp⟩
        case measure => decide
      · rw [if_neg h] at hr
        subst hr
        clear hx hy
        go_wp2
        go_ret
        exact ⟨rfl, rfl⟩
    · have h := hx (by omega)
      subst h
      rw [if_pos rfl] at hr
      subst hr
      clear hx hy
      by_cases h : y = 0
      · subst h
        go_wp2
        go_roundw
        case rel => exact ⟨2, by omega, rfl, by simp, by simp, by simp⟩
        case measure => decide
      · go_wp2
        go_ret
        exact ⟨rfl, rfl⟩
    · have h := hx (by omega)
      have h2 := hy (by omega)
      subst h
      subst h2
      subst hr
      clear hx hy
      go_wp2
      go_ret
      exact ⟨rfl, rfl⟩

/-- compareEdges, with the world told as the sort asks. -/
theorem cmpE_g (a b : Ed) (w : World) : Calls Try.prog 32 #[.agg #[.int .i64 a.x, .int .i64 a.y], .agg #[.int .i64 b.x, .int .i64 b.y]] w fun e w' => e = .returned (.int .i64 (cmpE a b)) ∧ ∃ q os', w' = grow (w.drewN q) os' := by
  obtain ⟨ax, ay⟩ := a
  obtain ⟨bx, b_y⟩ := b
  have C0 : ∀ (x y : Int) (W : World) (n : Nat) (os : Array Obj), Calls Try.prog 40 #[.int .i64 x, .int .i64 y] (grow (W.drewN n) os) fun e w'' => e = .returned (.int .i64 (cmpi x y)) ∧ ∃ p : GrownBy, w'' = grow (W.drewN p.n) p.os :=
    fun x y W n os => (compare_q x y _).mono fun _ _ ⟨he, hw⟩ => ⟨he, ⟨n, os⟩, hw.symm⟩
  unfold cmpE
  simp only
  obtain ⟨u, hu⟩ : ∃ u, cmpi ax bx = u := ⟨_, rfl⟩
  obtain ⟨v, hv⟩ : ∃ v, cmpi ay b_y = v := ⟨_, rfl⟩
  have C1 := Lib.hid (fun W n os => C0 ax bx W n os)
  have C2 := Lib.hid (fun W n os => C0 ay b_y W n os)
  rw [hu] at C1 ⊢
  rw [hv] at C2 ⊢
  obtain ⟨r, hr⟩ : ∃ r, (if u = 0 then v else u) = r := ⟨_, rfl⟩
  rw [hr]
  have HR := Lib.hid hr
  clear C0 hu hv hr
  go_enter Try.func32, Try.ntmps32
  go_wp2
  obtain ⟨W2, hW2⟩ : ∃ W2, (w.alloc (.cells #[.int .i64 ax, .int .i64 ay] 49)).alloc (.cells #[.int .i64 bx, .int .i64 b_y] 49) = W2 := ⟨_, rfl⟩
  have a0 : W2.cell? ⟨w.heap.size, 0, none⟩ = some (.int .i64 ax) := by subst hW2; simp
  have a1 : W2.cell? ⟨w.heap.size, 1, none⟩ = some (.int .i64 ay) := by subst hW2; simp
  have b0 : W2.cell? ⟨w.heap.size + 1, 0, none⟩ = some (.int .i64 bx) := by subst hW2; simp
  have b1 : W2.cell? ⟨w.heap.size + 1, 1, none⟩ = some (.int .i64 b_y) := by subst hW2; simp
  have hz : w.heap.size + 1 < W2.heap.size := by subst hW2; simp
  have HE : Hid (∃ os, W2 = grow w os) := Lib.hid ⟨_, by rw [← hW2, alloc_eq_grow, alloc_eq_grow, grow_grow]⟩
  have g0 := fun n os => cell_grown (n := n) (os := os) (show (⟨w.heap.size, 0, none⟩ : Addr).block < W2.heap.size by show w.heap.size < _; omega) a0
  have g1 := fun n os => cell_grown (n := n) (os := os) (show (⟨w.heap.size, 1, none⟩ : Addr).block < W2.heap.size by show w.heap.size < _; omega) a1
  have g2 := fun n os => cell_grown (n := n) (os := os) (show (⟨w.heap.size + 1, 0, none⟩ : Addr).block < W2.heap.size by show w.heap.size + 1 < _; omega) b0
  have g3 := fun n os => cell_grown (n := n) (os := os) (show (⟨w.heap.size + 1, 1, none⟩ : Addr).block < W2.heap.size by show w.heap.size + 1 < _; omega) b1
  rw [hW2]
  clear a0 a1 b0 b1 hz hW2
  refine wp_region_tailG (n := 10) (by kernel_rfl) (by kernel_rfl) ?_
  simp only [List.take_succ_cons, List.take_zero, List.drop_succ_cons, List.drop_zero]
  repeat (quiet_step ((first | (go_at_call 40; with_reducible exact C1.out _ _ _) | (go_at_call 40; with_reducible exact C2.out _ _ _))))
  refine wpQuiet_nil ?_
  rintro _ ⟨⟨n, os⟩, rfl⟩
  clear g0 g1 g2 g3
  simp only
  obtain ⟨W3, hW3⟩ : ∃ W3, grow (W2.drewN n) os = W3 := ⟨_, rfl⟩
  rw [hW3]
  go_wp2_with (go_at_call 39; (refine (or_q _ _ u v r _ HR.out (by simp) (by simp)).mono ?_); rintro _ _ ⟨rfl, rfl⟩)
  go_ret
  refine ⟨rfl, ?_⟩
  obtain ⟨os0, rfl⟩ := HE.out
  subst hW3
  exact ⟨n, os0 ++ (os ++ #[_]), by rw [alloc_eq_grow]; show grow (grow (grow (w.drewN n) os0) os) _ = _; rw [grow_grow, grow_grow]⟩

end Go.Proofs.Ytepammildggnmaa
