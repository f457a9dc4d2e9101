/- Get, Hash, Equal of textures, of both; the reference's Equal of images. -/
import Derived.Test.YtcjlgfadjedgbaaImgs
import Derived.Test.YtcjlgfadjedgbaaIS
import Derived.Test.YtcjlgfadjedgbaaIQ
import Derived.Test.YtcjlgfadjedgbaaL1
namespace Go.Proofs.Ytcjlgfadjedgbaa
open Go.RowKit Go.Sort

theorem imgType : ImgType Try.prog 25 := ⟨⟨_, Try.underlying25, rfl⟩, by kernel_rfl⟩

/-- A texel of a level of a texture. -/
def tgt (ts : List Tx) (x y k : Int) (i : Nat) : Int := if 0 ≤ k ∧ k < ts.length then (ts.getD k.toNat default).m.get x y i else 0

/-- One cell boxed. -/
theorem box1 (w : World) (x : Value) (t : TypeId) : (w.alloc (.cells #[x] t)).cell? ⟨w.heap.size, 0, none⟩ = some x ∧ Below w.heap.size w (w.alloc (.cells #[x] t)) := ⟨by simp, box_below _ _ _⟩

set_option maxRecDepth 100000 in
set_option maxHeartbeats 1000000 in
theorem tget_b (A : Option Addr) (n c : Nat) (ts : List Tx) (x y k : Int) (w : World) (R : RdI w w.heap.size A n ts) :
    Calls Try.prog 28 #[.agg #[.slice A n c], .int .i64 x, .int .i64 y, .int .i64 k] w (GivesV w (tgt ts x y k)) := by
  obtain ⟨a0, B0⟩ := box1 w (.slice A n c) 29
  have z1 : (w.alloc (.cells #[.slice A n c] 29)).heap.size = w.heap.size + 1 := by simp
  have D1 := VBox.made (w.alloc (.cells #[.slice A n c] 29)) 0 0 0 0 44
  have B1 := box_below (w.alloc (.cells #[.slice A n c] 29)) #[.int .i64 0, .int .i64 0, .int .i64 0, .int .i64 0] 44
  replace a0 := cell_below B1 a0
  have BB := bon B0 B1
  rw [z1] at D1
  have RR := R.on BB
  have hl := R.len
  clear B0 B1 z1 R
  by_cases h : 0 ≤ k ∧ k < (n : Int)
  · obtain ⟨q, rfl⟩ : ∃ q : Nat, k = q := ⟨k.toNat, by omega⟩
    obtain ⟨b, off, t, rfl, _, TA, TR, ht⟩ := RR.at_ (j := q) (by omega)
    have hg : tgt ts x y (q : Int) = t.m.get x y := by
      funext i
      unfold tgt
      rw [if_pos ⟨by omega, by omega⟩, Int.toNat_natCast, List.getD, ht]
      rfl
    rw [hg]
    have cg := fun W R => pget_b t.m.f t.m.w t.m.h t.A t.n t.c t.m.l x y W R TR.2
    unfold GivesV at cg ⊢
    have KT := TR.1
    obtain ⟨v, hv⟩ : ∃ v, (Im.mk t.m.f t.m.w t.m.h t.m.l).get x y = v := ⟨_, rfl⟩
    rw [hv] at cg
    rw [show t.m.get x y = v from hv]
    have CG := Lib.hid cg
    obtain ⟨h1, h2⟩ := h
    clear cg hv hg ht TR RR hl
    go_enter Try.func28, Try.ntmps28
    go_wp2_with (first
      | (refine wpList_tload rfl _ _ rfl imgType TA rfl ?_)
      | (go_at_call 53; (with_reducible refine (CG.out _ KT).mono ?_); rintro _ W1 ⟨rfl, B⟩; replace D1 := D1.on B; replace BB := bon BB B; clear B a0 TA KT)
      | (refine wpList_vset rfl _ _ _ rfl _ _ _ _ rfl rfl D1 (by kernel_rfl) ?_; intro V2 B2 D3 hD _))
    obtain ⟨⟨d0, d1, d2, d3⟩, _⟩ := D3
    exact bodyPost_ret (v := .agg #[.int .i64 (v 0), .int .i64 (v 1), .int .i64 (v 2), .int .i64 (v 3)]) (by simp [results, Try.results28, go_sem, *]) rfl ⟨rfl, BB.trans (B2.mono (by omega))⟩
  · have hg : tgt ts x y k = fun _ => 0 := by funext i; unfold tgt; rw [hl, if_neg h]
    rw [hg]
    unfold GivesV
    clear hg RR hl
    rcases (show k < 0 ∨ (0 ≤ k ∧ (n : Int) ≤ k) by omega) with h1 | ⟨h1, h2⟩
    all_goals
      clear h
      go_enter Try.func28, Try.ntmps28
      go_wp2_with (refine wpList_vset rfl _ _ _ rfl _ _ _ _ rfl rfl D1 (by kernel_rfl) ?_; intro V2 B2 D3 hD _)
      obtain ⟨⟨d0, d1, d2, d3⟩, _⟩ := D3
      exact bodyPost_ret (v := .agg #[.int .i64 0, .int .i64 0, .int .i64 0, .int .i64 0]) (by simp [results, Try.results28, go_sem, *]) rfl ⟨rfl, BB.trans (B2.mono (by omega))⟩

set_option maxRecDepth 100000 in
set_option maxHeartbeats 1000000 in
theorem rtget_b (A : Option Addr) (n c : Nat) (ts : List Tx) (x y k : Int) (w : World) (R : RdI w w.heap.size A n ts) :
    Calls Try.prog 29 #[.agg #[.slice A n c], .int .i64 x, .int .i64 y, .int .i64 k] w (GivesV w (tgt ts x y k)) := by
  obtain ⟨a0, B0⟩ := box1 w (.slice A n c) 29
  have z1 : (w.alloc (.cells #[.slice A n c] 29)).heap.size = w.heap.size + 1 := by simp
  have D1 := VBox.made (w.alloc (.cells #[.slice A n c] 29)) 0 0 0 0 44
  have B1 := box_below (w.alloc (.cells #[.slice A n c] 29)) #[.int .i64 0, .int .i64 0, .int .i64 0, .int .i64 0] 44
  replace a0 := cell_below B1 a0
  have BB := bon B0 B1
  rw [z1] at D1
  have RR := R.on BB
  have hl := R.len
  clear B0 B1 z1 R
  by_cases h : 0 ≤ k ∧ k < (n : Int)
  · obtain ⟨q, rfl⟩ : ∃ q : Nat, k = q := ⟨k.toNat, by omega⟩
    obtain ⟨b, off, t, rfl, _, TA, TR, ht⟩ := RR.at_ (j := q) (by omega)
    have hg : tgt ts x y (q : Int) = t.m.get x y := by
      funext i
      unfold tgt
      rw [if_pos ⟨by omega, by omega⟩, Int.toNat_natCast, List.getD, ht]
      rfl
    rw [hg]
    have cg := fun W R => riget_b t.m.f t.m.w t.m.h t.A t.n t.c t.m.l x y W R TR.2
    unfold GivesV at cg ⊢
    have KT := TR.1
    obtain ⟨v, hv⟩ : ∃ v, (Im.mk t.m.f t.m.w t.m.h t.m.l).get x y = v := ⟨_, rfl⟩
    rw [hv] at cg
    rw [show t.m.get x y = v from hv]
    have CG := Lib.hid cg
    obtain ⟨h1, h2⟩ := h
    clear cg hv hg ht TR RR hl
    go_enter Try.func29, Try.ntmps29
    go_wp2_with (first
      | (refine wpList_tload rfl _ _ rfl imgType TA rfl ?_)
      | (go_at_call 21; (with_reducible refine (CG.out _ KT).mono ?_); rintro _ W1 ⟨rfl, B⟩; replace D1 := D1.on B; replace BB := bon BB B; clear B a0 TA KT)
      | (refine wpList_vset rfl _ _ _ rfl _ _ _ _ rfl rfl D1 (by kernel_rfl) ?_; intro V2 B2 D3 hD _))
    obtain ⟨⟨d0, d1, d2, d3⟩, _⟩ := D3
    exact bodyPost_ret (v := .agg #[.int .i64 (v 0), .int .i64 (v 1), .int .i64 (v 2), .int .i64 (v 3)]) (by simp [results, Try.results29, go_sem, *]) rfl ⟨rfl, BB.trans (B2.mono (by omega))⟩
  · have hg : tgt ts x y k = fun _ => 0 := by funext i; unfold tgt; rw [hl, if_neg h]
    rw [hg]
    unfold GivesV
    clear hg RR hl
    rcases (show k < 0 ∨ (0 ≤ k ∧ (n : Int) ≤ k) by omega) with h1 | ⟨h1, h2⟩
    all_goals
      clear h
      go_enter Try.func29, Try.ntmps29
      go_wp2_with (refine wpList_vset rfl _ _ _ rfl _ _ _ _ rfl rfl D1 (by kernel_rfl) ?_; intro V2 B2 D3 hD _)
      obtain ⟨⟨d0, d1, d2, d3⟩, _⟩ := D3
      exact bodyPost_ret (v := .agg #[.int .i64 0, .int .i64 0, .int .i64 0, .int .i64 0]) (by simp [results, Try.results29, go_sem, *]) rfl ⟨rfl, BB.trans (B2.mono (by omega))⟩

/-- A texture's hash: the first j levels. -/
def thash (ts : List Tx) : Nat → Int
  | 0 => 0
  | j + 1 => IntKind.u64.wrap (thash ts j + IntKind.u64.wrap ((ts.getD j default).m.hash * ((j : Int) + 1)))

set_option maxRecDepth 100000 in
set_option maxHeartbeats 1000000 in
theorem thash_b (A : Option Addr) (n c : Nat) (ts : List Tx) (w : World) (R : RdI w w.heap.size A n ts) (hn : n ≤ 1000) :
    Calls Try.prog 30 #[.agg #[.slice A n c]] w fun e w' => e = .returned (.int .u64 (thash ts n)) ∧ Below w.heap.size w w' := by
  obtain ⟨a0, BB⟩ := box1 w (.slice A n c) 29
  have RR := Lib.hid (R.on BB)
  have hl := Lib.hid R.len
  obtain ⟨HS, hHS⟩ : ∃ HS : Nat → Int, thash ts = HS := ⟨_, rfl⟩
  have h0 : Hid (HS 0 = 0) := Lib.hid (by rw [← hHS]; rfl)
  have h1 : Hid (∀ j, HS (j + 1) = IntKind.u64.wrap (HS j + IntKind.u64.wrap ((ts.getD j default).m.hash * ((j : Int) + 1)))) := Lib.hid (by rw [← hHS]; intro j; rfl)
  rw [hHS]
  clear R hHS
  go_enter Try.func30, Try.ntmps30
  go_wp2
  go_loopw [3, 9] (fun s i wr => ∃ j : Nat, j ≤ n ∧ i = .int .i64 j ∧ s = .int .u64 (HS j) ∧ wr.cell? ⟨w.heap.size, 0, none⟩ = some (.slice A n c) ∧ RdI wr wr.heap.size A n ts ∧ Below w.heap.size w wr) (fun _ i _ => n - (intOf i).toNat)
  case atStart => exact ⟨0, by omega, rfl, by rw [h0.out], a0, RR.out, BB⟩
  case round =>
    clear a0 RR BB
    obtain ⟨j, hj, rfl, rfl, a0, RJ, BR⟩ := hrel
    by_cases hlt : j < n
    · obtain ⟨b, off, t, rfl, _, TA, TR, ht⟩ := RJ.at_ hlt
      have hs := h1.out j
      rw [List.getD, ht] at hs
      simp only [Option.getD_some] at hs
      have cg := fun W R => phash_b t.m.f t.m.w t.m.h t.A t.n t.c t.m.l W R
      obtain ⟨z, hz⟩ : ∃ z, t.m.hash = z := ⟨_, rfl⟩
      rw [hz] at hs
      rw [show (Im.mk t.m.f t.m.w t.m.h t.m.l).hash = z from hz] at cg
      have HSJ := Lib.hid hs
      have CG := Lib.hid cg
      clear hs cg hz ht
      have HJ := Lib.hid RJ
      clear RJ
      have bm := box_below wr #[.int .i64 t.m.f, .int .i64 t.m.w, .int .i64 t.m.h, .slice t.A t.n t.c] 25
      have DM := IBox.made wr t.m.f t.m.w t.m.h t.A t.n t.c 25
      have KT := TR.1.on bm
      have BM := bon BR bm
      replace a0 := cell_below bm a0
      have JM := Lib.hid (HJ.out.on bm)
      clear TR
      go_wp2_with (first
          | (refine wpList_tload rfl _ _ rfl imgType TA rfl ?_)
          | (refine wpList_iload rfl _ _ rfl imgT DM.1 rfl ?_)
          | (go_at_call 54; (with_reducible refine (CG.out _ KT).mono ?_); rintro _ W1 ⟨rfl, B⟩; replace a0 := cell_below B a0))
      go_roundw
      case rel => exact ⟨j + 1, by omega, by go_num, by rw [HSJ.out], a0, JM.out.on B, bon BM B⟩
      case measure => simp [intOf]; omega
    · obtain rfl : j = n := by omega
      go_wp2
      go_ret
      exact ⟨rfl, BR⟩

set_option maxRecDepth 100000 in
set_option maxHeartbeats 1000000 in
theorem rthash_b (A : Option Addr) (n c : Nat) (ts : List Tx) (w : World) (R : RdI w w.heap.size A n ts) (hn : n ≤ 1000) :
    Calls Try.prog 31 #[.agg #[.slice A n c]] w fun e w' => e = .returned (.int .u64 (thash ts n)) ∧ Below w.heap.size w w' := by
  obtain ⟨a0, BB⟩ := box1 w (.slice A n c) 29
  have RR := Lib.hid (R.on BB)
  have hl := Lib.hid R.len
  obtain ⟨HS, hHS⟩ : ∃ HS : Nat → Int, thash ts = HS := ⟨_, rfl⟩
  have h0 : Hid (HS 0 = 0) := Lib.hid (by rw [← hHS]; rfl)
  have h1 : Hid (∀ j, HS (j + 1) = IntKind.u64.wrap (HS j + IntKind.u64.wrap ((ts.getD j default).m.hash * ((j : Int) + 1)))) := Lib.hid (by rw [← hHS]; intro j; rfl)
  rw [hHS]
  clear R hHS
  go_enter Try.func31, Try.ntmps31
  go_wp2
  go_loopw [3, 4] (fun s i wr => ∃ j : Nat, j ≤ n ∧ i = .int .i64 j ∧ s = .int .u64 (HS j) ∧ wr.cell? ⟨w.heap.size, 0, none⟩ = some (.slice A n c) ∧ RdI wr wr.heap.size A n ts ∧ Below w.heap.size w wr) (fun _ i _ => n - (intOf i).toNat)
  case atStart => exact ⟨0, by omega, rfl, by rw [h0.out], a0, RR.out, BB⟩
  case round =>
    clear a0 RR BB
    obtain ⟨j, hj, rfl, rfl, a0, RJ, BR⟩ := hrel
    by_cases hlt : j < n
    · obtain ⟨b, off, t, rfl, _, TA, TR, ht⟩ := RJ.at_ hlt
      have hs := h1.out j
      rw [List.getD, ht] at hs
      simp only [Option.getD_some] at hs
      have cg := fun W R => rihash_b t.m.f t.m.w t.m.h t.A t.n t.c t.m.l W R
      obtain ⟨z, hz⟩ : ∃ z, t.m.hash = z := ⟨_, rfl⟩
      rw [hz] at hs
      rw [show (Im.mk t.m.f t.m.w t.m.h t.m.l).hash = z from hz] at cg
      have HSJ := Lib.hid hs
      have CG := Lib.hid cg
      clear hs cg hz ht
      have HJ := Lib.hid RJ
      clear RJ
      have KT := TR.1
      have BM := BR
      have JM := HJ
      clear TR
      go_wp2_with (first
          | (refine wpList_tload rfl _ _ rfl imgType TA rfl ?_)
          | (go_at_call 55; (with_reducible refine (CG.out _ KT).mono ?_); rintro _ W1 ⟨rfl, B⟩; replace a0 := cell_below B a0))
      go_roundw
      case rel => exact ⟨j + 1, by omega, by go_num, by rw [HSJ.out], a0, JM.out.on B, bon BM B⟩
      case measure => simp [intOf]; omega
    · obtain rfl : j = n := by omega
      go_wp2
      go_ret
      exact ⟨rfl, BR⟩

end Go.Proofs.Ytcjlgfadjedgbaa
