/- What the reference's Encode of texel formats returns. -/
import Derived.Test.YtcjlgfadjedgbaaT1
import Derived.Test.YtcjlgfadjedgbaaTreeC
import Derived.Test.YtcjlgfadjedgbaaVRef3
namespace Go.Proofs.Ytcjlgfadjedgbaa
open Go.RowKit Go.Sort

theorem vecT : RowType Try.prog 44 4 := ⟨fun W => by unfold isAgg; rw [Sem.run_bind, run_underlying Try.underlying44 W]; simp, by kernel_rfl⟩

/-- Halves one behind the other. -/
def hlf (x : Nat → Int) : Nat → List Int
  | 0 => []
  | k + 1 => hlf x k ++ lb 2 (hv (x k))
theorem hlf_len (x : Nat → Int) : ∀ k, (hlf x k).length = 2 * k
  | 0 => rfl
  | k + 1 => by rw [hlf, List.length_append, hlf_len x k, lb_len]; omega

/-- The components of a vector by their numbers. -/
def cmp4 (x0 x1 x2 x3 : Int) (k : Nat) : Int := compv x0 x1 x2 x3 (k : Int)
theorem enc_half {f x0 x1 x2 x3 : Int} (hf : f = 5 ∨ f = 6) : enc f x0 x1 x2 x3 = hlf (cmp4 x0 x1 x2 x3) (ncm f) := by
  rcases hf with rfl | rfl
  · show lb 2 (hv x0) = hlf (cmp4 x0 x1 x2 x3) 1
    simp [hlf, cmp4, compv]
  · show lb 2 (hv x0) ++ (lb 2 (hv x1) ++ (lb 2 (hv x2) ++ lb 2 (hv x3))) = hlf (cmp4 x0 x1 x2 x3) 4
    simp [hlf, cmp4, compv]

theorem compv4 (x0 x1 x2 x3 : Int) : compv x0 x1 x2 x3 0 = x0 ∧ compv x0 x1 x2 x3 1 = x1 ∧ compv x0 x1 x2 x3 2 = x2 ∧ compv x0 x1 x2 x3 3 = x3 := by simp [compv]

theorem rhv_b (x : Int) (w : World) : Calls Try.prog 65 #[.agg #[.int .i64 5, .int .i64 10, .bool true], .int .i64 x] w fun e w' => e = .returned (.int .i64 (hv x)) ∧ Below w.heap.size w w' :=
  rencode_yes 5 10 x true w (by omega) (by omega) (by omega) (by omega)

set_option maxRecDepth 100000 in
set_option maxHeartbeats 1000000 in
theorem rencode_half (f x0 x1 x2 x3 : Int) (w : World) (hf : f = 5 ∨ f = 6) :
    Calls Try.prog 41 #[.int .i64 f, .agg #[.int .i64 x0, .int .i64 x1, .int .i64 x2, .int .i64 x3]] w (GivesRd w .u8 (enc f x0 x1 x2 x3)) := by
  obtain ⟨a0, a1, a2, a3, BB⟩ := box4 w (.int .i64 x0) (.int .i64 x1) (.int .i64 x2) (.int .i64 x3) 44
  have V : VecAt (w.alloc (.cells #[.int .i64 x0, .int .i64 x1, .int .i64 x2, .int .i64 x3] 44)) w.heap.size x0 x1 x2 x3 := ⟨a0, a1, a2, a3⟩
  have e1 : (w.alloc (.cells #[.int .i64 x0, .int .i64 x1, .int .i64 x2, .int .i64 x3] 44)).heap.size = w.heap.size + 1 := by simp
  have own0 := Own.made (w.alloc (.cells #[.int .i64 x0, .int .i64 x1, .int .i64 x2, .int .i64 x3] 44)) 5 .u8
  have B0 := box_below (w.alloc (.cells #[.int .i64 x0, .int .i64 x1, .int .i64 x2, .int .i64 x3] 44)) #[] 5
  rw [e1] at own0 B0
  obtain ⟨W1, hW1⟩ : ∃ W1, W1 = (w.alloc (.cells #[.int .i64 x0, .int .i64 x1, .int .i64 x2, .int .i64 x3] 44)) := ⟨_, rfl⟩
  rw [← hW1] at V own0 B0 BB
  have OWN0 := Lib.hid own0
  have HW1 := Lib.hid hW1
  clear own0 hW1 e1
  rw [enc_half hf]
  have cv := fun W => rvalid_q f W
  rw [show isf f = true by rcases hf with rfl | rfl <;> rfl] at cv
  have cc := fun W => rcomps_q f W
  obtain ⟨L, hL⟩ : ∃ L, ncm f = L := ⟨_, rfl⟩
  have hL4 : L ≤ 4 := by rcases hf with rfl | rfl <;> (rw [← hL]; decide)
  rw [hL] at cc ⊢
  obtain ⟨x, hx⟩ : ∃ x, cmp4 x0 x1 x2 x3 = x := ⟨_, rfl⟩
  have cm := fun (k : Nat) W => rcomp_b x0 x1 x2 x3 (k : Int) W
  have ecm : ∀ k : Nat, compv x0 x1 x2 x3 (k : Int) = x k := fun k => by rw [← hx]; rfl
  simp only [ecm] at cm
  rw [hx]
  have CV := Lib.hid cv
  have CC := Lib.hid cc
  have CM := Lib.hid cm
  clear cv cc cm hL hx ecm a0 a1 a2 a3
  rcases hf with rfl | rfl
  all_goals
    go_enter Try.func41, Try.ntmps41
    go_wp2_with (go_at_call 46; with_reducible refine (CV.out _).mono ?_; rintro _ _ ⟨rfl, rfl⟩)
    go_loopw [5, 6] (fun t i wr => ∃ (k cap : Nat) (A : Option Addr), k ≤ L ∧ i = .int .i64 k ∧ t = .slice A (2 * k) cap ∧ Own wr (w.heap.size + 1) 5 .u8 A (2 * k) cap (hlf x k) ∧ Below (w.heap.size + 1) W1 wr) (fun _ i _ => L - (intOf i).toNat)
    case atStart => exact ⟨0, 0, _, by omega, rfl, rfl, by rw [← HW1.out]; exact OWN0.out, by rw [← HW1.out]; exact B0⟩
    case round =>
      clear OWN0 B0
      obtain ⟨k, cap, A, hk, rfl, rfl, own, B1⟩ := hrel
      have OWN := Lib.hid own
      have VV := V.below (by omega) B1
      clear own
      by_cases hlt : k < L
      · go_wp2_with (go_at_call 63; with_reducible refine (CC.out _).mono ?_; rintro _ _ ⟨rfl, rfl⟩)
        refine wp_region_treeC (fun W => VecAt W w.heap.size x0 x1 x2 x3) (.read 0 (.read 2 (.read 3 (.fork1 1 (.fork1 4 (.fork1 5 (.fork1 6 (.fork1 7 (.read 8 .nil))))))))) (by kernel_rfl) (by kernel_rfl) (fun W hB => VV.on hB) ?_
        intro V1 BC
        refine tree_read rfl ?_
        refine wpQuiet_step (fun K hK => ?_)
        rw [if_pos (by rfl)]
        first | refine quiet_move _ rfl ?_ | refine quiet_assign _ rfl ?_
        go_simp
        refine hK _ ?_
        clear hK K
        refine wpQuiet_nil ?_
        refine tree_read rfl ?_
        refine wpQuiet_step (fun K hK => ?_)
        rw [if_pos (by rfl)]
        refine quiet_vload _ _ rfl vecT (fun W hW => hW) rfl ?_
        go_simp
        refine hK _ ?_
        clear hK K
        refine wpQuiet_nil ?_
        refine tree_read rfl ?_
        refine wpQuiet_step (fun K hK => ?_)
        rw [if_pos (by rfl)]
        first | refine quiet_move _ rfl ?_ | refine quiet_assign _ rfl ?_
        go_simp
        refine hK _ ?_
        clear hK K
        refine wpQuiet_nil ?_
        have V1V := VV.on BC
        have OWN1 := Lib.hid (OWN.out.on BC)
        refine tree_one rfl ?_
        go_wp2_with (go_at_call 66; refine (rhalf_b _).mono ?_; rintro _ V2 ⟨rfl, B⟩; replace V1V := V1V.on B; replace OWN1 := Lib.hid (OWN1.out.on B); replace BC := bon BC B; clear B)
        refine ⟨V1V, ?_⟩
        refine tree_one rfl ?_
        go_wp2_with (go_at_call 67; refine (CM.out _ _).mono ?_; rintro _ V3 ⟨rfl, B⟩; replace V1V := V1V.on B; replace OWN1 := Lib.hid (OWN1.out.on B); replace BC := bon BC B; clear B)
        refine ⟨V1V, ?_⟩
        refine tree_one rfl ?_
        go_wp2_with (go_at_call 65; refine (rhv_b _ _).mono ?_; rintro _ V4 ⟨rfl, B⟩; replace V1V := V1V.on B; replace OWN1 := Lib.hid (OWN1.out.on B); replace BC := bon BC B; clear B)
        refine ⟨V1V, ?_⟩
        refine tree_one rfl ?_
        go_wp2_with (go_at_call 64; refine (rlb_b _ 2 _ (by omega)).mono ?_; rintro _ V5 ⟨A2, n2, d2, rfl, own2, B⟩; replace V1V := V1V.on B; replace OWN1 := Lib.hid (OWN1.out.on B); replace BC := bon BC B; clear B)
        refine ⟨V1V, ?_⟩
        refine tree_one rfl ?_
        obtain rfl : n2 = 2 := by rw [← own2.len, lb_len]
        go_wp2_with (refine wpList_app _ rfl _ _ _ rfl eB OWN1.out rfl own2.rd rfl (by simp only [maxLen]; omega) (by omega) ?_; intro A3 n3 d3 V6 own3 B; obtain rfl : n3 = 2 * (k + 1) := by (have h1 := own3.len; rw [List.length_append, hlf_len, lb_len] at h1; omega))
        refine ⟨V1V.below (by omega) B, ?_⟩
        have B3 := (B1.trans (BC.mono (by have := OWN.out.2.2; omega))).trans B
        refine tree_read rfl ?_
        refine wpQuiet_step (fun K hK => ?_)
        rw [if_pos (by rfl)]
        first | refine quiet_move _ rfl ?_ | refine quiet_assign _ rfl ?_
        go_simp
        refine hK _ ?_
        clear hK K
        refine wpQuiet_nil ?_
        refine tree_nil ?_
        clear OWN OWN1 VV V1V BC own2 B B1
        go_wp2
        go_roundw
        case rel => exact ⟨k + 1, d3, A3, by omega, by go_num, rfl, own3, B3⟩
        case measure => simp [intOf]; omega
      · obtain rfl : k = L := by omega
        go_wp2_with (go_at_call 63; with_reducible refine (CC.out _).mono ?_; rintro _ _ ⟨rfl, rfl⟩)
        go_ret
        exact ⟨A, _, cap, rfl, OWN.out.room, OWN.out.rd, BB.trans (B1.mono (by omega))⟩

end Go.Proofs.Ytcjlgfadjedgbaa
