/- Get, Hash, Equal of textures, of both; the reference's Equal of images. -/
import Derived.Test.YtoipmldbjciinaaImgs
import Derived.Test.YtoipmldbjciinaaIS
import Derived.Test.YtoipmldbjciinaaIQ
import Derived.Test.YtoipmldbjciinaaL1
namespace Go.Proofs.Ytoipmldbjciinaa
open Go.RowKit Go.Sort

theorem imgType : ImgType Try.prog 45 := ⟨⟨_, Try.underlying45, rfl⟩, by kernel_rfl⟩

/-- A texel of a level of a texture. -/
def tgt (ts : List Tx) (x y k : Int) (i : Nat) : Int := if 0 ≤ k ∧ k < ts.length then (ts.getD k.toNat default).m.get x y i else 0

/-- One cell boxed. -/
theorem box1 (w : World) (x : Value) (t : TypeId) : (w.alloc (.cells #[x] t)).cell? ⟨w.heap.size, 0, none⟩ = some x ∧ Below w.heap.size w (w.alloc (.cells #[x] t)) := ⟨by simp, box_below _ _ _⟩

set_option maxRecDepth 100000 in
set_option maxHeartbeats 1000000 in
theorem tget_b (A : Option Addr) (n c : Nat) (ts : List Tx) (x y k : Int) (w : World) (R : RdI w w.heap.size A n ts) :
    Calls Try.prog 53 #[.agg #[.slice A n c], .int .i64 x, .int .i64 y, .int .i64 k] w (GivesV w (tgt ts x y k)) := by
  obtain ⟨a0, B0⟩ := box1 w (.slice A n c) 41
  have z1 : (w.alloc (.cells #[.slice A n c] 41)).heap.size = w.heap.size + 1 := by simp
  have D1 := VBox.made (w.alloc (.cells #[.slice A n c] 41)) 0 0 0 0 25
  have B1 := box_below (w.alloc (.cells #[.slice A n c] 41)) #[.int .i64 0, .int .i64 0, .int .i64 0, .int .i64 0] 25
  replace a0 := cell_below B1 a0
  have BB := bon B0 B1
  rw [z1] at D1
  have RR := R.on BB
  have hl := R.len
  clear B0 B1 z1 R
  by_cases h : 0 ≤ k ∧ k < (n : Int)
  · obtain ⟨q, rfl⟩ : ∃ q : Nat, k = q := ⟨k.toNat, by omega⟩
    obtain ⟨b, off, t, rfl, _, TA, TR, ht⟩ := RR.at_ (j := q) (by omega)
    have hg : tgt ts x y (q : Int) = t.m.get x y := by
      funext i
      unfold tgt
      rw [if_pos ⟨by omega, by omega⟩, Int.toNat_natCast, List.getD, ht]
      rfl
    rw [hg]
    have cg := fun W R => pget_b t.m.f t.m.w t.m.h t.A t.n t.c t.m.l x y W R TR.2
    unfold GivesV at cg ⊢
    have KT := TR.1
    obtain ⟨v, hv⟩ : ∃ v, (Im.mk t.m.f t.m.w t.m.h t.m.l).get x y = v := ⟨_, rfl⟩
    rw [hv] at cg
    rw [show t.m.get x y = v from hv]
    have CG := Lib.hid cg
    obtain ⟨h1, h2⟩ := h
    clear cg hv hg ht TR RR hl
    go_enter Try.func53, Try.ntmps53
    go_wp2_with (first
      | (refine wpList_tload rfl _ _ rfl imgType TA rfl ?_)
      | (go_at_call 60; (with_reducible refine (CG.out _ KT).mono ?_); rintro _ W1 ⟨rfl, B⟩; replace D1 := D1.on B; replace BB := bon BB B; clear B a0 TA KT)
      | (refine wpList_vset rfl _ _ _ rfl _ _ _ _ rfl rfl D1 (by kernel_rfl) ?_; intro V2 B2 D3 hD _))
    obtain ⟨⟨d0, d1, d2, d3⟩, _⟩ := D3
    exact bodyPost_ret (v := .agg #[.int .i64 (v 0), .int .i64 (v 1), .int .i64 (v 2), .int .i64 (v 3)]) (by simp [results, Try.results53, go_sem, *]) rfl ⟨rfl, BB.trans (B2.mono (by omega))⟩
  · have hg : tgt ts x y k = fun _ => 0 := by funext i; unfold tgt; rw [hl, if_neg h]
    rw [hg]
    unfold GivesV
    clear hg RR hl
    rcases (show k < 0 ∨ (0 ≤ k ∧ (n : Int) ≤ k) by omega) with h1 | ⟨h1, h2⟩
    all_goals
      clear h
      go_enter Try.func53, Try.ntmps53
      go_wp2_with (refine wpList_vset rfl _ _ _ rfl _ _ _ _ rfl rfl D1 (by kernel_rfl) ?_; intro V2 B2 D3 hD _)
      obtain ⟨⟨d0, d1, d2, d3⟩, _⟩ := D3
      exact bodyPost_ret (v := .agg #[.int .i64 0, .int .i64 0, .int .i64 0, .int .i64 0]) (by simp [results, Try.results53, go_sem, *]) rfl ⟨rfl, BB.trans (B2.mono (by omega))⟩

/-- A texture's hash: the first j levels. -/
def thash (ts : List Tx) : Nat → Int
  | 0 => 0
  | j + 1 => IntKind.u64.wrap (thash ts j + IntKind.u64.wrap ((ts.getD j default).m.hash * ((j : Int) + 1)))

end Go.Proofs.Ytoipmldbjciinaa
