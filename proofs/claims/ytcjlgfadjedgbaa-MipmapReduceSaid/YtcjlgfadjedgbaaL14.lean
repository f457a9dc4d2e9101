/- MipmapReduce: each texel of the next level is the quantized average of four texels. Written by tools/gen/genL14.py. -/
import Derived.Test.YtcjlgfadjedgbaaL8
import Derived.Test.YtcjlgfadjedgbaaL10
import Derived.Test.YtcjlgfadjedgbaaTreeC
namespace Go.Proofs.Ytcjlgfadjedgbaa
open Go.RowKit Go.Sort
set_option linter.unusedVariables false

/-- A texel of the next level is the average, quantized. -/
theorem red_get {m : Im} (h : m.ok) (h1 : ¬ (m.w = 1 ∧ m.h = 1)) {X Y : Nat} (hX : (X : Int) < hfs m.w 1) (hY : (Y : Int) < hfs m.h 1) (i : Nat) :
    m.red.get X Y i = qnt m.f (avg m X Y 0) (avg m X Y 1) (avg m X Y 2) (avg m X Y 3) i := by
  have ho := red_ok h
  have e := red_yes h h1
  have hw := hfs_side (n := m.w) h.2.1 1
  have hh := hfs_side (n := m.h) h.2.2.1 1
  obtain ⟨W, hW⟩ : ∃ W : Nat, hfs m.w 1 = W := ⟨(hfs m.w 1).toNat, by have := hw.1; omega⟩
  obtain ⟨H, hH⟩ : ∃ H : Nat, hfs m.h 1 = H := ⟨(hfs m.h 1).toNat, by have := hh.1; omega⟩
  rw [hW, hH, Int.toNat_natCast, Int.toNat_natCast] at e
  rw [hW] at hX
  rw [hH] at hY
  rw [e] at ho ⊢
  have k : (Im.mk m.f W H (rpre m W (H * W))).ins X Y := ⟨ho, ⟨by omega, hX⟩, ⟨by omega, hY⟩⟩
  have hYX : Y * W + X + 1 ≤ H * W := by
    have h1 : (Y + 1) * W ≤ H * W := Nat.mul_le_mul_right _ (by omega)
    rw [Nat.add_mul, Nat.one_mul] at h1
    omega
  have hp := rpre_part m W (Y * W + X) (H * W) (by omega)
  rw [show (Y * W + X) % W = X by rw [Nat.add_comm, Nat.add_mul_mod_self_right, Nat.mod_eq_of_lt (by omega)], show (Y * W + X) / W = Y by rw [Nat.add_comm, Nat.add_mul_div_right _ _ (by omega), Nat.div_eq_of_lt (by omega), Nat.zero_add]] at hp
  unfold Im.get
  rw [if_pos k]
  unfold Im.txl Im.off
  rw [if_pos k]
  have ht : (((Y : Int) * (W : Int) + (X : Int)) * ((nsz m.f : Nat) : Int)).toNat = (Y * W + X) * nsz m.f := by
    rw [← Int.natCast_mul, ← Int.natCast_add, ← Int.natCast_mul, Int.toNat_natCast]
  show dec m.f (part (rpre m W (H * W)) (((Y : Int) * (W : Int) + (X : Int)) * ((nsz m.f : Nat) : Int)).toNat (nsz m.f)) i = _
  rw [ht, hp]
  rfl

/-- The sum of the first texels of four. -/
def rsm (va vb vc vd : Nat → Int) : Nat → Nat → Int
  | 0, _ => 0
  | 1, i => va i
  | 2, i => va i + vb i
  | 3, i => va i + vb i + vc i
  | _, i => va i + vb i + vc i + vd i

section
variable {P : Program} {ops : Array Oper} {rest : List Oper} {o : Oper} {a : Act} {Q : Exit → Act → World → Prop}
/-- The greater of two, behind a guard that holds. -/
theorem wpList_maxG {W : World} (hw : Region.wanted o (yielded ops a.tmps) = true) (x y : Operand) (ts : Array TypeId) (ho : o.op = .call { callee := .builtin .max, args := #[x, y], argTypes := ts }) {u v z : Int} (hx : a.eval x = .int .i64 u) (hy : a.eval y = .int .i64 v) (hz : (if u < v then v else u) = z)
    (H : wpList P ops Q rest (a.put o.dst (.int .i64 z)) W) : wpList P ops Q (o :: rest) a W := by
  refine wpList_step fun K hK => ?_
  rw [if_pos hw]
  unfold Oper.wp execOp
  have e : (Builtin.max_ ts o.type #[.int .i64 u, .int .i64 v]).run P W = .ok (.int .i64 z) W := by simp [Builtin.max_, Builtin.max2, hz]
  simp only [ho, resolve, invoke, builtin, Sem.run_bind, Sem.run_pure, Result.andThen_ok, List.map_toArray, List.map_cons, List.map_nil, hx, hy]
  rw [e]
  exact hK _ _ H
end

set_option maxRecDepth 100000 in
set_option maxHeartbeats 2000000 in
theorem reduce_no (f wd ht : Int) (A : Option Addr) (n c : Nat) (l : List Int) (w : World) (R : Rd w w.heap.size .u8 A n l) (hno : ¬ (n ≤ 2000 ∧ (Im.mk f wd ht l).ok)) :
    Calls Try.prog 5 #[.agg #[.int .i64 f, .int .i64 wd, .int .i64 ht, .slice A n c]] w fun e w' => e = .returned (.bool true) ∧ Below w.heap.size w w' := by
  have D := (IBox.made w f wd ht A n c 25).1
  have BB := box_below w #[.int .i64 f, .int .i64 wd, .int .i64 ht, .slice A n c] 25
  have cv := fun W => rivalid_b f wd ht A n c l W R.len
  have CE := Lib.hid (fun W => lexample_b W)
  obtain ⟨j0, j1, j2, j3⟩ := id D
  by_cases hbig : (2000 : Int) < (n : Int)
  · go_enter Try.func5, Try.ntmps5
    go_wp2_with (go_at_call 9; (with_reducible refine (CE.out _).mono ?_); rintro _ W9 ⟨rfl, B⟩; replace BB := bon BB B)
    go_ret
    exact ⟨rfl, BB⟩
  · have hk : ¬ (Im.mk f wd ht l).ok := fun k => hno ⟨by omega, k⟩
    rw [decide_eq_false hk] at cv
    have CV := Lib.hid cv
    clear cv hk hno R
    go_enter Try.func5, Try.ntmps5
    go_wp2_with (first
      | (refine wpList_iload rfl _ _ rfl imgT D rfl ?_)
      | (go_at_call 20; (with_reducible refine (CV.out _).mono ?_); rintro _ V1 ⟨rfl, B⟩; replace BB := bon BB B)
      | (go_at_call 9; (with_reducible refine (CE.out _).mono ?_); rintro _ W9 ⟨rfl, B⟩; replace BB := bon BB B))
    go_ret
    exact ⟨rfl, BB⟩

set_option maxRecDepth 100000 in
set_option maxHeartbeats 4000000 in
theorem reduce_one (f : Int) (A : Option Addr) (n c : Nat) (l : List Int) (w : World) (R : Rd w w.heap.size .u8 A n l) (hc : n ≤ c) (hn : n ≤ 2000) (hok : (Im.mk f 1 1 l).ok) :
    Calls Try.prog 5 #[.agg #[.int .i64 f, .int .i64 1, .int .i64 1, .slice A n c]] w fun e w' => e = .returned (.bool true) ∧ Below w.heap.size w w' := by
  have D := (IBox.made w f 1 1 A n c 25).1
  have BB := box_below w #[.int .i64 f, .int .i64 1, .int .i64 1, .slice A n c] 25
  have K0 := R.on BB
  have cv := fun W => rivalid_b f 1 1 A n c l W R.len
  have CE := Lib.hid (fun W => lexample_b W)
  have cr := fun W R => preduce_b f 1 1 A n c l W R hc (by omega)
  rw [red_no (fun k => k.2 ⟨rfl, rfl⟩)] at cr
  unfold GivesIO at cr
  simp only at cr
  have CR := Lib.hid cr
  have CI := Lib.hid (fun A2 n2 c2 W R R2 => riequal_b f 1 1 A2 A n2 n c2 c l W R R2)
  rw [decide_eq_true hok] at cv
  have CV := Lib.hid cv
  have hbig : ¬ (2000 : Int) < (n : Int) := by omega
  obtain ⟨j0, j1, j2, j3⟩ := id D
  clear cv cr hok R hn
  go_enter Try.func5, Try.ntmps5
  go_wp2_with (first
    | (refine wpList_iload rfl _ _ rfl imgT D rfl ?_)
    | (refine wpList_iload rfl _ _ rfl imgT E.1 rfl ?_)
    | (go_at_call 20; (with_reducible refine (CV.out _).mono ?_); rintro _ V1 ⟨rfl, B⟩; clear j0 j1 j2 j3; replace BB := bon BB B; replace K0 := K0.on B; replace D := D.on B; clear B; obtain ⟨j0, j1, j2, j3⟩ := id D)
    | (go_at_call 14; (with_reducible refine (CR.out _ K0).mono ?_); rintro _ V2 ⟨A2, n2, c2, rfl, own, B⟩; clear j0 j1 j2 j3; have KO := own.rd; replace BB := bon BB B; replace K0 := K0.on B; replace D := D.on B; clear B own; obtain ⟨j0, j1, j2, j3⟩ := id D)
    | (refine wpList_iset rfl _ _ _ rfl rfl rfl (IBox.made V2 0 0 0 none 0 0 25) (by kernel_rfl) ?_; intro V3 B3 E hg3 hz3; clear j0 j1 j2 j3; have B := (box_below V2 #[.int .i64 0, .int .i64 0, .int .i64 0, .slice none 0 0] 25).trans B3; replace D := D.on B; replace K0 := K0.on B; replace KO := KO.on B; replace BB := bon BB B; clear B B3 hg3 hz3; obtain ⟨j0, j1, j2, j3⟩ := id D)
    | (go_at_call 13; (with_reducible refine (CI.out A2 n2 c2 _ KO K0).mono ?_); rintro _ V4 ⟨rfl, B⟩; replace BB := bon BB B)
    | (go_at_call 9; (with_reducible refine (CE.out _).mono ?_); rintro _ W9 ⟨rfl, B⟩; replace BB := bon BB B))
  go_ret
  exact ⟨rfl, BB⟩

end Go.Proofs.Ytcjlgfadjedgbaa
