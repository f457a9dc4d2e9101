/- The numbers of expressions and their depths, of the parser and of the reference. Written by tools/gen/genY12.py. -/
import Derived.Test.YtjpkcgepdfpbnaaGreatDoorY7
import Derived.Deep.LoopGhost
import Derived.WalkMore
import Derived.Test.YtjpkcgepdfpbnaaGreatDoorY11
import Derived.Test.YtjpkcgepdfpbnaaGreatDoorZ11
namespace Go.Proofs.YtjpkcgepdfpbnaaGreatDoor
open Go.RowKit Go.Sort Go.ChangeShapes Go.WideShapes
set_option linter.unusedVariables false

section
variable {P : Program} {ops : Array Oper} {Q : Exit → Act → World → Prop} {rest : List Oper} {a : Act} {W : World}
theorem eload5L {dst : Option Tmp} {ty t : TypeId} {x : Operand} {pos : String} {after : Array Edge} {b o : Nat} {v0 v1 v2 v3 v4 : Value} (T : RowK P t 5) (k : W.rangeAt b o [v0, v1, v2, v3, v4]) (hx : a.eval x = .pointer (some ⟨b, o, none⟩))
    (H : wpList P ops Q rest (a.put dst (.agg #[v0, v1, v2, v3, v4])) W) : wpList P ops Q ({ dst := dst, op := .load t x, type := ty, pos := pos, after := after, guard := none } :: rest) a W :=
  eloadL (cs := [v0, v1, v2, v3, v4]) T k hx H
end

theorem nodesL_snoc (l : List Ex) (k : Nat) (x : Ex) (h : l[k]? = some x) : Ex.nodesL (l.take (k + 1)) = Ex.nodesL (l.take k) + x.nodes := by
  rw [List.take_add_one, h, Option.toList_some, Ex.nodesL_app, Ex.nodesL_one]
theorem depL_snoc (l : List Ex) (k : Nat) (x : Ex) (h : l[k]? = some x) : Ex.depL (l.take (k + 1)) = max (Ex.depL (l.take k)) x.dep := by
  rw [List.take_add_one, h, Option.toList_some, Ex.depL_app, Ex.depL_one]
theorem nodesL_take (l : List Ex) (k : Nat) : Ex.nodesL (l.take k) ≤ Ex.nodesL l := by
  have := Ex.nodesL_app (l.take k) (l.drop k)
  rw [List.take_append_drop] at this
  omega
theorem dep_nodes : ∀ e : Ex, e.dep ≤ e.nodes
  | .mk _ _ _ _ l => by
    rw [Ex.dep, Ex.nodes]
    have : ∀ l : List Ex, (∀ x ∈ l, x.dep ≤ x.nodes) → Ex.depL l ≤ Ex.nodesL l := fun l h => by
      induction l with
      | nil => rw [Ex.depL, Ex.nodesL]; exact Nat.le_refl _
      | cons x r ih =>
        rw [Ex.depL, Ex.nodesL]
        have := h x (by simp)
        have := ih fun y hy => h y (by simp [hy])
        omega
    have := this l fun x _ => dep_nodes x
    omega

set_option maxRecDepth 100000 in
set_option maxHeartbeats 2000000 in
theorem exprNodes_b (N : Nat) : ∀ (e : Ex) (A : Option Addr) (n c : Nat) (w : World), e.nodes ≤ N → N ≤ 1152921504606846976 → RdX w (inH w) A n e.l →
    Calls Tryz.prog 22 #[exV e A n c] w fun r w' => r = .returned (.int .i64 ((e.nodes : Nat) : Int)) ∧ Below w.heap.size w w' := by
  induction N with
  | zero => intro e A n c w h _ _; have := Ex.nodes_pos e; omega
  | succ N ih =>
    intro e A n c w hN hN2 R
    have hn : n ≤ maxLen := R.2.1
    unfold maxLen at hn
    have hnl := R.1
    have R0 := Lib.hid (R.on (box_below w #[.int .i64 e.k, .int .i64 e.o, .string e.s, .int .i64 e.v, .slice A n c] 42))
    have X0 := EBox.made w #[.int .i64 e.k, .int .i64 e.o, .string e.s, .int .i64 e.v, .slice A n c] 42
    have B0 := box_below w #[.int .i64 e.k, .int .i64 e.o, .string e.s, .int .i64 e.v, .slice A n c] 42
    have IH := Lib.hid ih
    have HN := Lib.hid (Ex.nodes_eq e)
    have HD := Lib.hid (Ex.dep_eq e)
    clear R ih
    go_enter Tryz.func22, Tryz.ntmps22
    go_wp2
    go_loopg [3, 9] n (fun gk v i wr => ∃ (a k : Nat), i = .int .i64 (k : Int) ∧ v = .int .i64 (a : Int) ∧ k ≤ n ∧ gk = n - k ∧ a = 1 + Ex.nodesL (e.l.take k) ∧ Below w.heap.size w wr ∧ RdX wr (inH wr) A n e.l)
    case atStart => exact ⟨1, 0, rfl, rfl, Nat.zero_le _, rfl, by simp [Ex.nodesL], B0, R0.out⟩
    case round =>
      clear R0 X0 B0
      obtain ⟨a, k, rfl, rfl, hk, hgk, ha, BB, R⟩ := hrel
      rename World => wr
      have HB := Lib.hid BB
      have HR := Lib.hid R
      have HA := Lib.hid ha
      have HG := Lib.hid hgk
      have hdn := Lib.hid (dep_nodes e)
      clear BB R ha hgk
      by_cases hlt : k < n
      · obtain ⟨b1, o1, x, A2, m, c2, hA, hb1, hx, r1, R2⟩ := HR.out.at_ hlt
        subst hA
        have hlti : (k : Int) < (n : Int) := by omega
        have hxm : x ∈ e.l := List.mem_of_getElem? hx.out
        have hxn := Ex.nodesL_mem hxm
        have hsn := Lib.hid (nodesL_snoc e.l k x hx.out)
        have hdx := dep_nodes x
        have hle := nodesL_take e.l (k + 1)
        rw [nodesL_snoc e.l k x hx.out] at hle
        have HN2 := HN.out
        have hq := dep_nodes e
        obtain ⟨y, hy⟩ : ∃ y, x.nodes = y := ⟨_, rfl⟩
        have hsum : a + y ≤ 1152921504606846976 := by rw [HA.out, ← hy]; omega
        have hsi : (a : Int) + (y : Int) ≤ 2305843009213693952 := by omega
        have hsi2 : 0 ≤ (a : Int) + (y : Int) := by omega
        have HC := Lib.hid (fun W hW => IH.out x A2 m c2 W (by omega) (by omega) hW)
        rw [hy] at HC hsn
        have R2 := Lib.hid R2
        clear hxm hxn hdx hle HN2 hq hy hb1
        have BA := Lib.hid (box_below wr #[.int .i64 x.k, .int .i64 x.o, .string x.s, .int .i64 x.v, .slice A2 m c2] 42)
        go_wp2_with (first
          | (with_reducible refine eload5L rk_ex r1 rfl ?_; go_simp)
          | (go_at_call 22; (with_reducible refine (HC.out _ (R2.out.on BA.out)).mono ?_); rintro _ W1 ⟨rfl, B1⟩; have B2 := Lib.hid (bon BA.out B1); clear B1))
        go_roundg (n - (k + 1))
        case measure => rw [HG.out]; omega
        case rel => exact ⟨a + y, k + 1, by go_num, by first | rfl | go_num | (congr 1; omega), by omega, rfl, by first | (have h1 := hsn.out; have h2 := HA.out; omega), bon HB.out B2.out, HR.out.on B2.out⟩
      · obtain rfl : n = k := by omega
        have hfin : Hid (e.nodes = a) := Lib.hid (by rw [HA.out, List.take_of_length_le (Nat.le_of_eq hnl), HN.out, Nat.add_comm])
        go_wp2
        go_ret
        refine ⟨?_, HB.out⟩
        rw [hfin.out]
        rfl

set_option maxRecDepth 100000 in
set_option maxHeartbeats 2000000 in
theorem exprDepth_b (N : Nat) : ∀ (e : Ex) (A : Option Addr) (n c : Nat) (w : World), e.nodes ≤ N → N ≤ 1152921504606846976 → RdX w (inH w) A n e.l →
    Calls Tryz.prog 24 #[exV e A n c] w fun r w' => r = .returned (.int .i64 ((e.dep : Nat) : Int)) ∧ Below w.heap.size w w' := by
  induction N with
  | zero => intro e A n c w h _ _; have := Ex.nodes_pos e; omega
  | succ N ih =>
    intro e A n c w hN hN2 R
    have hn : n ≤ maxLen := R.2.1
    unfold maxLen at hn
    have hnl := R.1
    have R0 := Lib.hid (R.on (box_below w #[.int .i64 e.k, .int .i64 e.o, .string e.s, .int .i64 e.v, .slice A n c] 42))
    have X0 := EBox.made w #[.int .i64 e.k, .int .i64 e.o, .string e.s, .int .i64 e.v, .slice A n c] 42
    have B0 := box_below w #[.int .i64 e.k, .int .i64 e.o, .string e.s, .int .i64 e.v, .slice A n c] 42
    have IH := Lib.hid ih
    have HN := Lib.hid (Ex.nodes_eq e)
    have HD := Lib.hid (Ex.dep_eq e)
    clear R ih
    go_enter Tryz.func24, Tryz.ntmps24
    go_wp2
    go_loopg [3, 9] n (fun gk v i wr => ∃ (a k : Nat), i = .int .i64 (k : Int) ∧ v = .int .i64 (a : Int) ∧ k ≤ n ∧ gk = n - k ∧ a = Ex.depL (e.l.take k) ∧ Below w.heap.size w wr ∧ RdX wr (inH wr) A n e.l)
    case atStart => exact ⟨0, 0, rfl, rfl, Nat.zero_le _, rfl, by simp [Ex.depL], B0, R0.out⟩
    case round =>
      clear R0 X0 B0
      obtain ⟨a, k, rfl, rfl, hk, hgk, ha, BB, R⟩ := hrel
      rename World => wr
      have HB := Lib.hid BB
      have HR := Lib.hid R
      have HA := Lib.hid ha
      have HG := Lib.hid hgk
      have hdn := Lib.hid (dep_nodes e)
      clear BB R ha hgk
      by_cases hlt : k < n
      · obtain ⟨b1, o1, x, A2, m, c2, hA, hb1, hx, r1, R2⟩ := HR.out.at_ hlt
        subst hA
        have hlti : (k : Int) < (n : Int) := by omega
        have hxm : x ∈ e.l := List.mem_of_getElem? hx.out
        have hxn := Ex.nodesL_mem hxm
        have hsn := Lib.hid (depL_snoc e.l k x hx.out)
        have hdx := dep_nodes x
        have hle := nodesL_take e.l (k + 1)
        rw [nodesL_snoc e.l k x hx.out] at hle
        have HN2 := HN.out
        have hq := dep_nodes e
        obtain ⟨y, hy⟩ : ∃ y, x.dep = y := ⟨_, rfl⟩
        have hsum : a ≤ 1152921504606846976 ∧ y ≤ 1152921504606846976 := by
          have h1 := Ex.depL_app (e.l.take k) (e.l.drop k)
          rw [List.take_append_drop] at h1
          have h2 := HD.out
          rw [HA.out, ← hy]
          omega
        have hsi : (a : Int) + (y : Int) ≤ 2305843009213693952 := by omega
        have hsi2 : 0 ≤ (a : Int) + (y : Int) := by omega
        have HC := Lib.hid (fun W hW => IH.out x A2 m c2 W (by omega) (by omega) hW)
        rw [hy] at HC hsn
        have R2 := Lib.hid R2
        clear hxm hxn hdx hle HN2 hq hy hb1
        have BA := Lib.hid (box_below wr #[.int .i64 x.k, .int .i64 x.o, .string x.s, .int .i64 x.v, .slice A2 m c2] 42)
        go_wp2_with (first
          | (with_reducible refine eload5L rk_ex r1 rfl ?_; go_simp)
          | (go_at_call 24; (with_reducible refine (HC.out _ (R2.out.on BA.out)).mono ?_); rintro _ W1 ⟨rfl, B1⟩; have B2 := Lib.hid (bon BA.out B1); clear B1))
        go_roundg (n - (k + 1))
        case measure => rw [HG.out]; omega
        case rel => exact ⟨max a y, k + 1, by go_num, by first | rfl | go_num | (congr 1; omega), by omega, rfl, by first | (have h1 := hsn.out; have h2 := HA.out; omega), bon HB.out B2.out, HR.out.on B2.out⟩
      · obtain rfl : n = k := by omega
        have hfin : Hid (e.dep = a + 1) := Lib.hid (by rw [HA.out, List.take_of_length_le (Nat.le_of_eq hnl), HD.out])
        have hsm : a ≤ 1152921504606846976 := by have := hfin.out; have := hdn.out; omega
        go_wp2
        go_ret
        refine ⟨?_, HB.out⟩
        rw [hfin.out]
        first | rfl | (rw [show ((a + 1 : Nat) : Int) = 1 + (a : Int) by omega]; rfl)

set_option maxRecDepth 100000 in
set_option maxHeartbeats 2000000 in
theorem rexprNodes_b (N : Nat) : ∀ (e : Ex) (A : Option Addr) (n c : Nat) (w : World), e.nodes ≤ N → N ≤ 1152921504606846976 → RdX w (inH w) A n e.l →
    Calls Tryz.prog 23 #[exV e A n c] w fun r w' => r = .returned (.int .i64 ((e.nodes : Nat) : Int)) ∧ Below w.heap.size w w' := by
  induction N with
  | zero => intro e A n c w h _ _; have := Ex.nodes_pos e; omega
  | succ N ih =>
    intro e A n c w hN hN2 R
    have hn : n ≤ maxLen := R.2.1
    unfold maxLen at hn
    have hnl := R.1
    have R0 := Lib.hid (R.on (box_below w #[.int .i64 e.k, .int .i64 e.o, .string e.s, .int .i64 e.v, .slice A n c] 42))
    have X0 := EBox.made w #[.int .i64 e.k, .int .i64 e.o, .string e.s, .int .i64 e.v, .slice A n c] 42
    have B0 := box_below w #[.int .i64 e.k, .int .i64 e.o, .string e.s, .int .i64 e.v, .slice A n c] 42
    have IH := Lib.hid ih
    have HN := Lib.hid (Ex.nodes_eq e)
    have HD := Lib.hid (Ex.dep_eq e)
    clear R ih
    go_enter Tryz.func23, Tryz.ntmps23
    go_wp2
    go_loopg [3, 4] n (fun gk v i wr => ∃ (a k : Nat), i = .int .i64 (k : Int) ∧ v = .int .i64 (a : Int) ∧ k ≤ n ∧ gk = n - k ∧ a = 1 + Ex.nodesL (e.l.take k) ∧ Below w.heap.size w wr ∧ EBox wr w.heap.size [.int .i64 e.k, .int .i64 e.o, .string e.s, .int .i64 e.v, .slice A n c] ∧ RdX wr (inH wr) A n e.l)
    case atStart => exact ⟨1, 0, rfl, rfl, Nat.zero_le _, rfl, by simp [Ex.nodesL], B0, X0, R0.out⟩
    case round =>
      clear R0 X0 B0
      obtain ⟨a, k, rfl, rfl, hk, hgk, ha, BB, XB, R⟩ := hrel
      rename World => wr
      have x4 := XB.cell (i := 4) rfl
      have HX := Lib.hid XB
      clear XB
      have HB := Lib.hid BB
      have HR := Lib.hid R
      have HA := Lib.hid ha
      have HG := Lib.hid hgk
      have hdn := Lib.hid (dep_nodes e)
      clear BB R ha hgk
      by_cases hlt : k < n
      · obtain ⟨b1, o1, x, A2, m, c2, hA, hb1, hx, r1, R2⟩ := HR.out.at_ hlt
        subst hA
        have hlti : (k : Int) < (n : Int) := by omega
        have hxm : x ∈ e.l := List.mem_of_getElem? hx.out
        have hxn := Ex.nodesL_mem hxm
        have hsn := Lib.hid (nodesL_snoc e.l k x hx.out)
        have hdx := dep_nodes x
        have hle := nodesL_take e.l (k + 1)
        rw [nodesL_snoc e.l k x hx.out] at hle
        have HN2 := HN.out
        have hq := dep_nodes e
        obtain ⟨y, hy⟩ : ∃ y, x.nodes = y := ⟨_, rfl⟩
        have hsum : a + y ≤ 1152921504606846976 := by rw [HA.out, ← hy]; omega
        have hsi : (a : Int) + (y : Int) ≤ 2305843009213693952 := by omega
        have hsi2 : 0 ≤ (a : Int) + (y : Int) := by omega
        have HC := Lib.hid (fun W hW => IH.out x A2 m c2 W (by omega) (by omega) hW)
        rw [hy] at HC hsn
        have R2 := Lib.hid R2
        clear hxm hxn hdx hle HN2 hq hy hb1
        go_wp2_with (first
          | (with_reducible refine eload5L rk_ex r1 rfl ?_; go_simp)
          | (go_at_call 23; (with_reducible refine (HC.out _ R2.out).mono ?_); rintro _ W1 ⟨rfl, B1⟩; have B2 := Lib.hid B1; clear B1))
        go_roundg (n - (k + 1))
        case measure => rw [HG.out]; omega
        case rel => exact ⟨a + y, k + 1, by go_num, by first | rfl | go_num | (congr 1; omega), by omega, rfl, by first | (have h1 := hsn.out; have h2 := HA.out; omega), bon HB.out B2.out, HX.out.on (Nat.succ_pos _) B2.out, HR.out.on B2.out⟩
      · obtain rfl : n = k := by omega
        have hfin : Hid (e.nodes = a) := Lib.hid (by rw [HA.out, List.take_of_length_le (Nat.le_of_eq hnl), HN.out, Nat.add_comm])
        go_wp2
        go_ret
        refine ⟨?_, HB.out⟩
        rw [hfin.out]
        rfl

set_option maxRecDepth 100000 in
set_option maxHeartbeats 2000000 in
theorem rexprDepth_b (N : Nat) : ∀ (e : Ex) (A : Option Addr) (n c : Nat) (w : World), e.nodes ≤ N → N ≤ 1152921504606846976 → RdX w (inH w) A n e.l →
    Calls Tryz.prog 25 #[exV e A n c] w fun r w' => r = .returned (.int .i64 ((e.dep : Nat) : Int)) ∧ Below w.heap.size w w' := by
  induction N with
  | zero => intro e A n c w h _ _; have := Ex.nodes_pos e; omega
  | succ N ih =>
    intro e A n c w hN hN2 R
    have hn : n ≤ maxLen := R.2.1
    unfold maxLen at hn
    have hnl := R.1
    have R0 := Lib.hid (R.on (box_below w #[.int .i64 e.k, .int .i64 e.o, .string e.s, .int .i64 e.v, .slice A n c] 42))
    have X0 := EBox.made w #[.int .i64 e.k, .int .i64 e.o, .string e.s, .int .i64 e.v, .slice A n c] 42
    have B0 := box_below w #[.int .i64 e.k, .int .i64 e.o, .string e.s, .int .i64 e.v, .slice A n c] 42
    have IH := Lib.hid ih
    have HN := Lib.hid (Ex.nodes_eq e)
    have HD := Lib.hid (Ex.dep_eq e)
    clear R ih
    go_enter Tryz.func25, Tryz.ntmps25
    go_wp2
    go_loopg [3, 4] n (fun gk v i wr => ∃ (a k : Nat), i = .int .i64 (k : Int) ∧ v = .int .i64 (a : Int) ∧ k ≤ n ∧ gk = n - k ∧ a = Ex.depL (e.l.take k) ∧ Below w.heap.size w wr ∧ EBox wr w.heap.size [.int .i64 e.k, .int .i64 e.o, .string e.s, .int .i64 e.v, .slice A n c] ∧ RdX wr (inH wr) A n e.l)
    case atStart => exact ⟨0, 0, rfl, rfl, Nat.zero_le _, rfl, by simp [Ex.depL], B0, X0, R0.out⟩
    case round =>
      clear R0 X0 B0
      obtain ⟨a, k, rfl, rfl, hk, hgk, ha, BB, XB, R⟩ := hrel
      rename World => wr
      have x4 := XB.cell (i := 4) rfl
      have HX := Lib.hid XB
      clear XB
      have HB := Lib.hid BB
      have HR := Lib.hid R
      have HA := Lib.hid ha
      have HG := Lib.hid hgk
      have hdn := Lib.hid (dep_nodes e)
      clear BB R ha hgk
      by_cases hlt : k < n
      · obtain ⟨b1, o1, x, A2, m, c2, hA, hb1, hx, r1, R2⟩ := HR.out.at_ hlt
        subst hA
        have hlti : (k : Int) < (n : Int) := by omega
        have hxm : x ∈ e.l := List.mem_of_getElem? hx.out
        have hxn := Ex.nodesL_mem hxm
        have hsn := Lib.hid (depL_snoc e.l k x hx.out)
        have hdx := dep_nodes x
        have hle := nodesL_take e.l (k + 1)
        rw [nodesL_snoc e.l k x hx.out] at hle
        have HN2 := HN.out
        have hq := dep_nodes e
        obtain ⟨y, hy⟩ : ∃ y, x.dep = y := ⟨_, rfl⟩
        have hsum : a ≤ 1152921504606846976 ∧ y ≤ 1152921504606846976 := by
          have h1 := Ex.depL_app (e.l.take k) (e.l.drop k)
          rw [List.take_append_drop] at h1
          have h2 := HD.out
          rw [HA.out, ← hy]
          omega
        have hsi : (a : Int) + (y : Int) ≤ 2305843009213693952 := by omega
        have hsi2 : 0 ≤ (a : Int) + (y : Int) := by omega
        have HC := Lib.hid (fun W hW => IH.out x A2 m c2 W (by omega) (by omega) hW)
        rw [hy] at HC hsn
        have R2 := Lib.hid R2
        clear hxm hxn hdx hle HN2 hq hy hb1
        go_wp2_with (first
          | (with_reducible refine eload5L rk_ex r1 rfl ?_; go_simp)
          | (go_at_call 25; (with_reducible refine (HC.out _ R2.out).mono ?_); rintro _ W1 ⟨rfl, B1⟩; have B2 := Lib.hid B1; clear B1))
        go_roundg (n - (k + 1))
        case measure => rw [HG.out]; omega
        case rel => exact ⟨max a y, k + 1, by go_num, by first | rfl | go_num | (congr 1; omega), by omega, rfl, by first | (have h1 := hsn.out; have h2 := HA.out; omega), bon HB.out B2.out, HX.out.on (Nat.succ_pos _) B2.out, HR.out.on B2.out⟩
      · obtain rfl : n = k := by omega
        have hfin : Hid (e.dep = a + 1) := Lib.hid (by rw [HA.out, List.take_of_length_le (Nat.le_of_eq hnl), HD.out])
        have hsm : a ≤ 1152921504606846976 := by have := hfin.out; have := hdn.out; omega
        go_wp2
        go_ret
        refine ⟨?_, HB.out⟩
        rw [hfin.out]
        first | rfl | (rw [show ((a + 1 : Nat) : Int) = 1 + (a : Int) by omega]; rfl)

end Go.Proofs.YtjpkcgepdfpbnaaGreatDoor

/- The tokens of a text are good; what ParseExpr returns, as a function on texts. -/
namespace Go.Proofs.YtjpkcgepdfpbnaaGreatDoor
open Go.RowKit Go.Sort Go.ChangeShapes Go.WideShapes
set_option linter.unusedVariables false

theorem head_take {r : List Int} {n : Nat} (h : 1 ≤ n) : (r.take n).head? = r.head? := by
  cases r with
  | nil => rw [List.take_nil]
  | cons a r => obtain ⟨m, rfl⟩ : ∃ m, n = m + 1 := ⟨n - 1, by omega⟩; rfl

theorem cls_take {r : List Int} {n : Nat} (h : 1 ≤ n) : cls (r.take n) = cls r := by unfold cls; rw [head_take h]

theorem tkr_okT {r : List Int} {m : Nat} (hm : 1 ≤ m) (h0 : r ≠ []) (h1 : ¬ (spn isWrd r = 0 ∧ sgl r = 0)) (h2 : (tkr r).1 = 0) (hl : r.length ≤ 100000) (hb : ∀ y ∈ r, (0 : Int) ≤ y ∧ y ≤ 255) : okT ⟨(tkr r).2.1, r.take (tkr r).2.2.1, (tkr r).2.2.2, ((m : Nat) : Int)⟩ := by
  have hp := tkr_pos h1 h2
  have hle := tkr_le r
  refine ⟨by show (1 : Int) ≤ ((m : Nat) : Int); omega, ?_, ?_, ?_, fun y hy => hb y (List.mem_of_mem_take hy)⟩
  · show r.take _ ≠ []
    intro e
    have := congrArg List.length e
    rw [List.length_take] at this
    have : 0 < r.length := List.length_pos_iff.2 h0
    simp only [List.length_nil] at *
    omega
  · show (r.take _).length ≤ 100000
    rw [List.length_take]; omega
  · show ((tkr r).2.1 = 1 ∧ cls (r.take _) = 1) ∨ ((tkr r).2.1 = 2 ∧ cls (r.take _) = 2) ∨ ((tkr r).2.1 = 3 ∧ cls (r.take _) = 2) ∨ ((tkr r).2.1 = 4 ∧ cls (r.take _) = 4)
    rw [cls_take hp]
    unfold tkr at h2 ⊢
    split at h2
    · rename_i q
      rw [if_pos q]
      have hc : cls r = 2 := by unfold cls; rw [if_pos q]
      split at h2
      · cases h2
      · rename_i q2
        rw [if_neg q2]
        split at h2
        · rename_i q3; exact absurd h2 q3
        · rename_i q3
          rw [if_neg q3]
          show ((nml r).1 = 1 ∧ cls r = 1) ∨ ((nml r).1 = 2 ∧ cls r = 2) ∨ ((nml r).1 = 3 ∧ cls r = 2) ∨ ((nml r).1 = 4 ∧ cls r = 4)
          unfold nml
          split
          · exact .inr (.inr (.inl ⟨rfl, hc⟩))
          · exact .inr (.inl ⟨rfl, hc⟩)
    · rename_i q
      rw [if_neg q]
      have hw : 0 < spn isWrd r ↔ (r.head?).any isWrd = true := by
        cases r with
        | nil => simp [spn_nil]
        | cons c r => rw [spn_cons]; simp only [List.head?_cons, Option.any_some]; split <;> simp_all
      split
      · rename_i q2
        exact .inl ⟨rfl, by unfold cls; rw [if_neg q, if_pos (hw.1 q2)]⟩
      · rename_i q2
        exact .inr (.inr (.inr ⟨rfl, by unfold cls; rw [if_neg q, if_neg (fun h => q2 (hw.2 h))]⟩))

theorem lexF_gd : ∀ (f n ln : Nat) (r : List Int), 1 ≤ ln → r.length ≤ 100000 → (lexF f n ln r).2.2 = 0 → f ≠ 0 → r.length < f → (∀ y ∈ r, (0 : Int) ≤ y ∧ y ≤ 255) → Gd (lexF f n ln r).1
  | 0, _, _, _, _, _, _, h, _, _ => absurd rfl h
  | f + 1, n, ln, r, h1, hl, h, _, hf, hb => by
    have hb2 : ∀ y ∈ r.drop (skp false r), (0 : Int) ≤ y ∧ y ≤ 255 := fun y hy => hb y (List.mem_of_mem_drop hy)
    have ih := lexF_gd f (n + 1) (ln + nls (r.take (skp false r)))
    have hk := skp_le false r
    rw [lexF] at h ⊢
    simp only at h ⊢
    split
    · rw [gd_cons]
      exact .inl ⟨rfl, rfl, rfl, by show (1 : Int) ≤ ((_ : Nat) : Int); omega⟩
    · rename_i q
      rw [if_neg q] at h
      split
      · rename_i q2; rw [if_pos q2] at h; cases h
      · rename_i q2
        rw [if_neg q2] at h
        split
        · rename_i q3; rw [if_pos q3] at h; cases h
        · rename_i q3
          rw [if_neg q3] at h
          split
          · rename_i q4; rw [if_pos q4] at h; exact absurd h q4
          · rename_i q4
            rw [if_neg q4] at h
            have q4' : (tkr (r.drop (skp false r))).1 = 0 := by simpa using q4
            have hp := tkr_pos q2 q4'
            have hlen : (r.drop (skp false r)).length ≤ r.length := by rw [List.length_drop]; omega
            have hpos : 0 < (r.drop (skp false r)).length := List.length_pos_iff.2 q
            have ih2 := ih ((r.drop (skp false r)).drop (tkr (r.drop (skp false r))).2.2.1) (by omega) (by rw [List.length_drop]; omega)
            split
            · rename_i q5
              rw [gd_cons]
              refine .inr ⟨tkr_okT (by omega) q q2 q4' (by omega) hb2, ih2 q5 (by omega) (by rw [List.length_drop]; omega) fun y hy => hb2 y (List.mem_of_mem_drop hy)⟩
            · rename_i q5
              rw [if_neg q5] at h
              exact absurd h q5

theorem lexv_gd {l : List Int} (hb : ∀ y ∈ l, (0 : Int) ≤ y ∧ y ≤ 255) (h : (lexv l).2.2 = 0) : Gd (lexv l).1 := by
  by_cases hl : 16384 < l.length
  · rw [lexv_long _ hl] at h
    cases h
  · unfold lexv at h ⊢
    rw [if_neg hl] at h ⊢
    exact lexF_gd _ _ _ _ (by omega) (by omega) h (by omega) (by omega) hb

theorem lexF_cnt : ∀ (f n ln : Nat) (r : List Int), (lexF f n ln r).1.length ≤ r.length + 1
  | 0, _, _, r => by simp [lexF]
  | f + 1, n, ln, r => by
    have ih := lexF_cnt f (n + 1) (ln + nls (r.take (skp false r)))
    have hk := skp_le false r
    rw [lexF]
    simp only
    split
    · simp
    · rename_i q
      split
      · simp
      · rename_i q2
        split
        · simp
        · split
          · simp
          · rename_i q4
            have q4' : (tkr (r.drop (skp false r))).1 = 0 := by simpa using q4
            have hp := tkr_pos q2 q4'
            have hpos : 0 < (r.drop (skp false r)).length := List.length_pos_iff.2 q
            have ih2 := ih ((r.drop (skp false r)).drop (tkr (r.drop (skp false r))).2.2.1)
            rw [List.length_drop] at ih2 hpos
            rw [List.length_drop] at ih2
            split
            · rw [List.length_cons]
              omega
            · simp

theorem lexv_cnt (l : List Int) : (lexv l).1.length ≤ 16385 := by
  by_cases hl : 16384 < l.length
  · rw [lexv_long _ hl]; simp
  · unfold lexv
    rw [if_neg hl]
    have := lexF_cnt (l.length + 1) 0 1 l
    omega

/-- The zero expression. -/
def zE : Ex := .mk 0 0 ⟨#[]⟩ 0 []

/-- What the parser makes of tokens: an expression and the place behind it. -/
def pxq (t : List Tk) : Ex × PS := (pe 1000000 (.ex 0) (t, 0)).getD (zE, (t, 0))

/-- The expression, the line, the error of a text. -/
def pxv (l : List Int) : Ex × Int × Int :=
  if (lexv l).2.2 ≠ 0 then (zE, (lexv l).2.1, (lexv l).2.2)
  else if (pk (pxq (lexv l).1).2).k ≠ 5 then (zE, (fl (pxq (lexv l).1).2).2, 3)
  else if 1000 < (pxq (lexv l).1).1.nodes ∨ 16 < (pxq (lexv l).1).1.dep then (zE, 0, 5)
  else ((pxq (lexv l).1).1, 0, 0)

theorem pxq_some {t : List Tk} (h : t.length ≤ 16385) : pe 1000000 (.ex 0) (t, 0) = some ((pxq t).1, (pxq t).2) ∧ (pxq t).1.nodes ≤ 40000 := by
  have hl : lft (t, 0) ≤ 16385 := by unfold lft; simp; omega
  obtain ⟨e, s', h1, h2, h3⟩ := pe_total 1000000 (.ex 0) (t, 0) (by show 0 ≤ 6; omega) (by show 16 * lft (t, 0) + 12 ≤ 1000000; omega)
  have e1 : pxq t = (e, s') := by unfold pxq; rw [h1]; rfl
  rw [e1]
  refine ⟨h1, ?_⟩
  have h4 : e.nodes + 2 * lft s' ≤ 2 * lft (t, 0) + 1 := h3
  show e.nodes ≤ 40000
  omega

end Go.Proofs.YtjpkcgepdfpbnaaGreatDoor

/- ParseExpr of the parser. Written by tools/gen/genY14.py. -/
namespace Go.Proofs.YtjpkcgepdfpbnaaGreatDoor
open Go.RowKit Go.Sort Go.ChangeShapes Go.WideShapes
set_option linter.unusedVariables false

theorem nb9 {w W : World} {k : Nat} {xs : List (Nat × List Value)} (hk : nb no0 w W xs k) : w.heap.size ≤ k := by
  rcases hk with hk | hk
  · exact hk.elim
  · exact hk.1

theorem nb8 {w W : World} {b c k : Nat} {s : PS} {xs : List (Nat × List Value)} {ts : List (Option Addr × Nat × List Ex)} (F : Fr no0 w W b s xs ts) (hk : nb no0 w W xs k) (hc : c < w.heap.size) : k ≠ c := by
  rcases hk with hk | hk
  · exact hk.elim
  · have := hk.1; omega

/-- What a call of ParseExpr returns. -/
def GivesP (W : World) (q : Ex × Int × Int) (r : Ending) (w' : World) : Prop :=
  ∃ A n c, r = .returned (.tuple #[.agg #[.int .i64 q.1.k, .int .i64 q.1.o, .string q.1.s, .int .i64 q.1.v, .slice A n c], .int .i64 q.2.1, .int .i64 q.2.2]) ∧ RdX w' (nd no0 W w') A n q.1.l ∧ Below W.heap.size W w'

theorem pxv_lex {l : List Int} (h : (lexv l).2.2 ≠ 0) : pxv l = (zE, (lexv l).2.1, (lexv l).2.2) := by unfold pxv; rw [if_pos h]
theorem pxv_syn {l : List Int} (h : ¬ (lexv l).2.2 ≠ 0) (h5 : (pk (pxq (lexv l).1).2).k ≠ 5) : pxv l = (zE, (fl (pxq (lexv l).1).2).2, 3) := by unfold pxv; rw [if_neg h, if_pos h5]
theorem pxv_big {l : List Int} (h : ¬ (lexv l).2.2 ≠ 0) (h5 : ¬ (pk (pxq (lexv l).1).2).k ≠ 5) (hb : 1000 < (pxq (lexv l).1).1.nodes ∨ 16 < (pxq (lexv l).1).1.dep) : pxv l = (zE, 0, 5) := by unfold pxv; rw [if_neg h, if_neg h5, if_pos hb]
theorem pxv_ok {l : List Int} (h : ¬ (lexv l).2.2 ≠ 0) (h5 : ¬ (pk (pxq (lexv l).1).2).k ≠ 5) (hb : ¬ (1000 < (pxq (lexv l).1).1.nodes ∨ 16 < (pxq (lexv l).1).1.dep)) : pxv l = ((pxq (lexv l).1).1, 0, 0) := by unfold pxv; rw [if_neg h, if_neg h5, if_neg hb]

/-- The parser's block, just laid. -/
theorem St.made {W : World} {A : Option Addr} {n c : Nat} {toks : List Tk} (R : RdT W W.heap.size A n toks) (g : Gd toks) (hn : n ≤ 100000) : St (W.alloc (.cells #[.slice A n c, .int .i64 0, .int .i64 0] 102)) W.heap.size (toks, 0) := by
  have X := EBox.made W #[.slice A n c, .int .i64 0, .int .i64 0] 102
  exact ⟨g, A, n, c, 0, toks, ⟨X.cell (i := 0) rfl, X.cell (i := 1) rfl, X.cell (i := 2) rfl, X.2, R.below (box_below _ _ _), by omega⟩, by simp⟩

theorem fl_pos {s : PS} (g : Gd s.1) : 0 < (fl s).2 := by
  unfold fl
  split
  · assumption
  · have := g.ln
    show 0 < (hdT s.1).ln
    omega

set_option maxRecDepth 100000 in
set_option maxHeartbeats 2000000 in
theorem parse_1 (s : ByteArray) (w : World) (LL : Lay6 w) (hs : s.size ≤ 9223372036854775807) (h : (lexv (strL s)).2.2 ≠ 0) : Calls Tryz.prog 38 #[.string s, .func (.func 39) #[] #[], .func (.func 22) #[] #[], .func (.func 24) #[] #[]] w (GivesP w (pxv (strL s))) := by
  rw [pxv_lex h]
  have hz : (w.alloc (.cells zX 42)).heap.size = w.heap.size + 1 := by simp
  have X8 := Lib.hid ((EBox.made w zX 42).on (Nat.succ_pos _) (box_below (w.alloc (.cells zX 42)) zX 42))
  have x11 := EBox.made (w.alloc (.cells zX 42)) zX 42
  rw [hz] at x11
  have X11 := Lib.hid x11
  have B0 : Hid (Below w.heap.size w ((w.alloc (.cells zX 42)).alloc (.cells zX 42))) := Lib.hid ((box_below w zX 42).alloc (by simp) _)
  have HL := Lib.hid LL
  have CL := Lib.hid (fun W L => lex_b s W L hs)
  clear LL x11
  have hq : ((lexv (strL s)).2.2 == 0) = false := beq_eq_false_iff_ne.2 h
  obtain ⟨L, hL⟩ : ∃ L, lexv (strL s) = L := ⟨_, rfl⟩
  rw [hL] at CL hq ⊢
  clear h hL
  go_enter Tryz.func38, Tryz.ntmps38
  go_wp2_with (first
    | (go_at_call 61; (refine (CL.out _ (HL.out.on B0.out)).mono ?_); rintro _ W1 ⟨A, n, c, rfl, R, hc, B⟩; have R1 := Lib.hid R; have X8' := Lib.hid (X8.out.on (Nat.succ_pos _) B); have X11' := Lib.hid (X11.out.on (Nat.succ_pos _) B); have B1 := Lib.hid (B0.out.trans (B.mono B0.out.size)); clear R B hc; have gx : EBox W1 (w.heap.size + 1) [.int .i64 0, .int .i64 0, .string ⟨#[]⟩, .int .i64 0, .slice none 0 0] := X11'.out; have g0 := gx.cell (i := 0) rfl; have g1 := gx.cell (i := 1) rfl; have g2 := gx.cell (i := 2) rfl; have g3 := gx.cell (i := 3) rfl; have g4 := gx.cell (i := 4) rfl; clear gx)
    | (refine bset5 rk_ex rfl X8'.out rfl rfl ?_; intro V XV BV sV; have h0 := XV.cell (i := 0) rfl; have h1 := XV.cell (i := 1) rfl; have h2 := XV.cell (i := 2) rfl; have h3 := XV.cell (i := 3) rfl; have h4 := XV.cell (i := 4) rfl; have BW := Lib.hid BV; clear XV BV))
  exact bodyPost_ret (v := .tuple #[exV zE none 0 0, .int .i64 L.2.1, .int .i64 L.2.2]) (by simp [results, Tryz.results38, go_sem, Ex.k, Ex.o, Ex.s, Ex.v, zE, h0, h1, h2, h3, h4]) rfl ⟨_, _, _, rfl, RdX.nil _ _ _, B1.out.trans (BW.out.below (Nat.le_refl _) B1.out.size)⟩
theorem ebo {b c : Nat} {W V : World} {v : Value} {vs : List Value} (K : But b W V) (hne : c ≠ b) (X : EBox W c (v :: vs)) : EBox V c (v :: vs) := K.ebox hne (X.lt (Nat.succ_pos _)) X

theorem Fr.inH' {D0 : Nat → Prop} {w W : World} {b n : Nat} {s : PS} {xs : List (Nat × List Value)} {ts : List (Option Addr × Nat × List Ex)} {A : Option Addr} {l : List Ex} (F : Fr D0 w W b s xs ts) (h : (A, n, l) ∈ ts) : RdX W (inH W) A n l := (F.tr _ h).keep (fun _ _ => rfl) fun k hk => (F.nbW hk).1

set_option maxRecDepth 100000 in
set_option maxHeartbeats 2000000 in
theorem parse_2 (s : ByteArray) (w : World) (LL : Lay6 w) (hs : s.size ≤ 9223372036854775807) (h : ¬ (lexv (strL s)).2.2 ≠ 0) (h5 : (pk (pxq (lexv (strL s)).1).2).k ≠ 5) : Calls Tryz.prog 38 #[.string s, .func (.func 39) #[] #[], .func (.func 22) #[] #[], .func (.func 24) #[] #[]] w (GivesP w (pxv (strL s))) := by
  rw [pxv_syn h h5]
  have hz : (w.alloc (.cells zX 42)).heap.size = w.heap.size + 1 := by simp
  have X8 := Lib.hid ((EBox.made w zX 42).on (Nat.succ_pos _) (box_below (w.alloc (.cells zX 42)) zX 42))
  have x11 := EBox.made (w.alloc (.cells zX 42)) zX 42
  rw [hz] at x11
  have X11 := Lib.hid x11
  have B0 : Hid (Below w.heap.size w ((w.alloc (.cells zX 42)).alloc (.cells zX 42))) := Lib.hid ((box_below w zX 42).alloc (by simp) _)
  have HL := Lib.hid LL
  have CL := Lib.hid (fun W L => lex_b s W L hs)
  clear LL x11
  obtain ⟨toks, hL⟩ : ∃ t, (lexv (strL s)).1 = t := ⟨_, rfl⟩
  have h0 : (lexv (strL s)).2.2 = 0 := by simpa using h
  have hgd := Lib.hid (lexv_gd (strL_rng s) h0)
  have hcnt := lexv_cnt (strL s)
  have hP := pxq_some hcnt
  obtain ⟨ln, hln⟩ : ∃ ln, (lexv (strL s)).2.1 = ln := ⟨_, rfl⟩
  have hl0 : lexv (strL s) = (toks, ln, 0) := by rw [← hL, ← hln, ← h0]
  rw [hL] at hgd hcnt hP h5 ⊢
  rw [hl0] at CL
  obtain ⟨e, he⟩ : ∃ e, (pxq toks).1 = e := ⟨_, rfl⟩
  obtain ⟨s1, hs1⟩ : ∃ s1, (pxq toks).2 = s1 := ⟨_, rfl⟩
  rw [he, hs1] at hP
  rw [hs1] at h5
  rw [hs1]
  have HE := Lib.hid (fun W b S => (allX 1000001 (by omega)).expression 1000000 (by omega) W b (toks, 0) e s1 S hP.1)
  have HN := Lib.hid hP.2
  have HC := Lib.hid hcnt
  have eg1 : Enters Tryz.prog 39 := enters_of Tryz.func39 (by kernel_rfl) rfl
  have eg2 : Enters Tryz.prog 22 := enters_of Tryz.func22 (by kernel_rfl) rfl
  have eg3 : Enters Tryz.prog 24 := enters_of Tryz.func24 (by kernel_rfl) rfl
  unfold Enters at eg1 eg2 eg3
  have f0 := fld_k
  obtain ⟨z, hz1⟩ : ∃ z, pk s1 = z := ⟨_, rfl⟩
  rw [hz1] at h5
  have q5 : (z.k == 5) = false := beq_eq_false_iff_ne.2 h5
  clear h h5 hL hln hl0 hP hcnt he hs1 h0
  go_enter Tryz.func38, Tryz.ntmps38
  go_wp2_with (first
    | (go_at_call 61; (refine (CL.out _ (HL.out.on B0.out)).mono ?_); rintro _ W1 ⟨A, n, c, rfl, R, hc, B⟩; have R1 := Lib.hid R; have X8' := Lib.hid (X8.out.on (Nat.succ_pos _) B); have X11' := Lib.hid (X11.out.on (Nat.succ_pos _) B); have B1 := Lib.hid (B0.out.trans (B.mono B0.out.size)); clear R B hc; obtain rfl : toks.length = n := R1.out.len; have SM := St.made (c := c) R1.out hgd.out (Nat.le_trans HC.out (by decide)); have F0 := Lib.hid (Fr.start0 SM); have hb8 : w.heap.size + 1 < W1.heap.size := X11'.out.lt (Nat.succ_pos _); have n8 : w.heap.size ≠ W1.heap.size := (by omega); have n11 : w.heap.size + 1 ≠ W1.heap.size := (by omega); have X8a := Lib.hid (X8'.out.on (Nat.succ_pos _) (box_below W1 #[.slice A toks.length c, .int .i64 0, .int .i64 0] 102)); have X11a := Lib.hid (X11'.out.on (Nat.succ_pos _) (box_below W1 #[.slice A toks.length c, .int .i64 0, .int .i64 0] 102)); have B1a := Lib.hid (B1.out.trans ((box_below W1 #[.slice A toks.length c, .int .i64 0, .int .i64 0] 102).mono B1.out.size)); clear SM hb8)
    | (go_at_call 39; (with_reducible refine (HE.out _ _ F0.out.st).mono ?_); rintro _ W3 ⟨A3, n3, c3, rfl, R, S1, B2⟩; have F3 := Lib.hid ((F0.out.got0 S1 B2 R).box #[.int .i64 e.k, .int .i64 e.o, .string e.s, .int .i64 e.v, .slice A3 n3 c3] 42); have X8b := Lib.hid ((ebo B2 n8 X8a.out).on (Nat.succ_pos _) (box_below W3 #[.int .i64 e.k, .int .i64 e.o, .string e.s, .int .i64 e.v, .slice A3 n3 c3] 42)); have X11b := Lib.hid ((ebo B2 n11 X11a.out).on (Nat.succ_pos _) (box_below W3 #[.int .i64 e.k, .int .i64 e.o, .string e.s, .int .i64 e.v, .slice A3 n3 c3] 42)); clear R S1 B2)
    | (go_at_call 62; (with_reducible refine (peek_b _ _ _ F3.out.st).mono ?_); rintro _ W4 ⟨rfl, B2⟩; rw [hz1]; have F4 := Lib.hid (F3.out.below B2); have X8c := Lib.hid (X8b.out.on (Nat.succ_pos _) B2); have X11c := Lib.hid (X11b.out.on (Nat.succ_pos _) B2); clear B2)
    | (go_at_call 63; (with_reducible refine (fail_b _ _ _ F4.out.st).mono ?_); rintro _ W5 ⟨rfl, S1, B2⟩; have F5 := Lib.hid (F4.out.call S1 B2); have X8d := Lib.hid (ebo B2 n8 X8c.out); have X11d := Lib.hid (ebo B2 n11 X11c.out); clear S1 B2)
    | (go_at_call 64; (with_reducible refine (failed_b _ _ _ F5.out.st).mono ?_); rintro _ _ ⟨rfl, rfl⟩; rw [decide_eq_true (fl_pos F4.out.st.gd)]; obtain ⟨_, At, nt, ct, at_, tk5, XX, hs5⟩ := F5.out.st; have d2 := XX.c2; have Xex_8 := X8d.out; have Xex_11 := X11d.out; have BB := Below.refl W5.heap.size W5; clear XX hs5))
  refine wp_region_treeC (fun V => V.rangeAt (w.heap.size + 1) 0 [.int .i64 0, .int .i64 0, .string ⟨#[]⟩, .int .i64 0, .slice none 0 0] ∧ V.cell? ⟨W1.heap.size, 2, none⟩ = some (.int .i64 (fl s1).2)) (.read 0 (.read 1 (.read 2 (.fork1 3 (.read 4 (.read 5 .nil)))))) (by kernel_rfl) (by kernel_rfl) (fun V hB => ⟨(Xex_11.on (Nat.succ_pos _) hB).1, cell_below hB d2⟩) ?_
  intro V0 B
  replace Xex_8 := EBox.on Xex_8 (Nat.succ_pos _) B
  replace Xex_11 := EBox.on Xex_11 (Nat.succ_pos _) B
  replace d2 := cell_below B d2
  replace BB := bon BB B
  clear B
  refine tree_read rfl ?_
  refine wpQuiet_step (fun K hK => ?_)
  rw [if_pos (by rfl)]
  refine quiet_eload _ _ rfl rk_ex rfl (fun W hW => hW.1) rfl ?_
  go_simp
  refine hK _ ?_
  clear hK K
  refine wpQuiet_nil ?_
  refine tree_read rfl ?_
  refine wpQuiet_step (fun K hK => ?_)
  rw [if_pos (by rfl)]
  refine quiet_tval (.pointer (some ⟨W1.heap.size, 2, none⟩)) (fun W hW => by simp [execOp, go_sem]) ?_
  go_simp
  refine hK _ ?_
  clear hK K
  refine wpQuiet_nil ?_
  refine tree_read rfl ?_
  refine wpQuiet_step (fun K hK => ?_)
  rw [if_pos (by rfl)]
  refine quiet_tval (.int .i64 (fl s1).2) (fun W hW => by have h9 := hW.2; simp [execOp, go_sem, h9]) ?_
  go_simp
  refine hK _ ?_
  clear hK K
  refine wpQuiet_nil ?_
  refine tree_one rfl ?_
  go_wp2_with (refine bset5 rk_ex rfl Xex_8 rfl rfl ?_; intro V XV BV sV; have h0 := XV.cell (i := 0) rfl; have h1 := XV.cell (i := 1) rfl; have h2 := XV.cell (i := 2) rfl; have h3 := XV.cell (i := 3) rfl; have h4 := XV.cell (i := 4) rfl; have BW := Lib.hid BV; have E11 := (ebo BV (by omega) Xex_11).1; have e2 := BV.cell (by omega) d2; clear XV BV)
  refine ⟨⟨E11, e2⟩, ?_⟩
  refine tree_read rfl ?_
  refine wpQuiet_step (fun K hK => ?_)
  rw [if_pos (by rfl)]
  first | refine quiet_move _ rfl ?_ | refine quiet_assign _ rfl ?_
  go_simp
  refine hK _ ?_
  clear hK K
  refine wpQuiet_nil ?_
  refine tree_read rfl ?_
  refine wpQuiet_step (fun K hK => ?_)
  rw [if_pos (by rfl)]
  first | refine quiet_move _ rfl ?_ | refine quiet_assign _ rfl ?_
  go_simp
  refine hK _ ?_
  clear hK K
  refine wpQuiet_nil ?_
  refine tree_nil ?_
  go_wp2_with fail
  have B1le := B1a.out.size
  have hlt1 : W1.heap.size ≤ (W1.alloc (.cells #[.slice A toks.length c, .int .i64 0, .int .i64 0] 102)).heap.size := by simp
  exact bodyPost_ret (v := .tuple #[exV zE none 0 0, .int .i64 (fl s1).2, .int .i64 3]) (by simp [results, Tryz.results38, go_sem, Ex.k, Ex.o, Ex.s, Ex.v, zE, h0, h1, h2, h3, h4]) rfl ⟨_, _, _, rfl, RdX.nil _ _ _, ((B1a.out.trans ((F5.out.bb.below (Nat.le_refl _) hlt1).mono B1.out.size)).trans (BB.mono (Nat.le_trans B1a.out.size F5.out.bb.size))).trans (BW.out.below (Nat.le_refl _) (Nat.le_trans (Nat.le_trans B1a.out.size F5.out.bb.size) BB.size))⟩

set_option maxRecDepth 100000 in
set_option maxHeartbeats 2000000 in
theorem parse_3 (s : ByteArray) (w : World) (LL : Lay6 w) (hs : s.size ≤ 9223372036854775807) (h : ¬ (lexv (strL s)).2.2 ≠ 0) (h5 : ¬ (pk (pxq (lexv (strL s)).1).2).k ≠ 5) (hb : 1000 < (pxq (lexv (strL s)).1).1.nodes) : Calls Tryz.prog 38 #[.string s, .func (.func 39) #[] #[], .func (.func 22) #[] #[], .func (.func 24) #[] #[]] w (GivesP w (pxv (strL s))) := by
  rw [pxv_big h h5 (.inl hb)]
  have hz : (w.alloc (.cells zX 42)).heap.size = w.heap.size + 1 := by simp
  have X8 := Lib.hid ((EBox.made w zX 42).on (Nat.succ_pos _) (box_below (w.alloc (.cells zX 42)) zX 42))
  have x11 := EBox.made (w.alloc (.cells zX 42)) zX 42
  rw [hz] at x11
  have X11 := Lib.hid x11
  have B0 : Hid (Below w.heap.size w ((w.alloc (.cells zX 42)).alloc (.cells zX 42))) := Lib.hid ((box_below w zX 42).alloc (by simp) _)
  have HL := Lib.hid LL
  have CL := Lib.hid (fun W L => lex_b s W L hs)
  clear LL x11
  obtain ⟨toks, hL⟩ : ∃ t, (lexv (strL s)).1 = t := ⟨_, rfl⟩
  have h0 : (lexv (strL s)).2.2 = 0 := by simpa using h
  have hgd := Lib.hid (lexv_gd (strL_rng s) h0)
  have hcnt := lexv_cnt (strL s)
  have hP := pxq_some hcnt
  obtain ⟨ln, hln⟩ : ∃ ln, (lexv (strL s)).2.1 = ln := ⟨_, rfl⟩
  have hl0 : lexv (strL s) = (toks, ln, 0) := by rw [← hL, ← hln, ← h0]
  rw [hL] at hgd hcnt hP h5 hb
  rw [hl0] at CL
  obtain ⟨e, he⟩ : ∃ e, (pxq toks).1 = e := ⟨_, rfl⟩
  obtain ⟨s1, hs1⟩ : ∃ s1, (pxq toks).2 = s1 := ⟨_, rfl⟩
  rw [he, hs1] at hP
  rw [hs1] at h5
  rw [he] at hb
  have HE := Lib.hid (fun W b S => (allX 1000001 (by omega)).expression 1000000 (by omega) W b (toks, 0) e s1 S hP.1)
  have HN := Lib.hid hP.2
  have HC := Lib.hid hcnt
  have eg1 : Enters Tryz.prog 39 := enters_of Tryz.func39 (by kernel_rfl) rfl
  have eg2 : Enters Tryz.prog 22 := enters_of Tryz.func22 (by kernel_rfl) rfl
  have eg3 : Enters Tryz.prog 24 := enters_of Tryz.func24 (by kernel_rfl) rfl
  unfold Enters at eg1 eg2 eg3
  have f0 := fld_k
  obtain ⟨z, hz1⟩ : ∃ z, pk s1 = z := ⟨_, rfl⟩
  rw [hz1] at h5
  replace h5 : z.k = 5 := by simpa using h5
  have hs0 : Hid (s1.2 ≤ 0) := Lib.hid (Int.not_lt.1 (pk_k (s := s1) (hz1 ▸ h5) (by decide)).1)
  have q5 : (z.k == 5) = true := beq_iff_eq.2 h5
  have qn : (1000 : Int) < ((e.nodes : Nat) : Int) := by omega
  have HE9 := Lib.hid qn
  clear h h5 hL hln hl0 hP hcnt he hs1 h0 hb
  go_enter Tryz.func38, Tryz.ntmps38
  go_wp2_with (first
    | (go_at_call 61; (refine (CL.out _ (HL.out.on B0.out)).mono ?_); rintro _ W1 ⟨A, n, c, rfl, R, hc, B⟩; have R1 := Lib.hid R; have X8' := Lib.hid (X8.out.on (Nat.succ_pos _) B); have X11' := Lib.hid (X11.out.on (Nat.succ_pos _) B); have B1 := Lib.hid (B0.out.trans (B.mono B0.out.size)); clear R B hc; obtain rfl : toks.length = n := R1.out.len; have SM := St.made (c := c) R1.out hgd.out (Nat.le_trans HC.out (by decide)); have F0 := Lib.hid (Fr.start0 SM); have hb8 : w.heap.size + 1 < W1.heap.size := X11'.out.lt (Nat.succ_pos _); have n8 : w.heap.size ≠ W1.heap.size := (by omega); have n11 : w.heap.size + 1 ≠ W1.heap.size := (by omega); have X8a := Lib.hid (X8'.out.on (Nat.succ_pos _) (box_below W1 #[.slice A toks.length c, .int .i64 0, .int .i64 0] 102)); have X11a := Lib.hid (X11'.out.on (Nat.succ_pos _) (box_below W1 #[.slice A toks.length c, .int .i64 0, .int .i64 0] 102)); have B1a := Lib.hid (B1.out.trans ((box_below W1 #[.slice A toks.length c, .int .i64 0, .int .i64 0] 102).mono B1.out.size)); clear SM hb8)
    | (go_at_call 39; (with_reducible refine (HE.out _ _ F0.out.st).mono ?_); rintro _ W3 ⟨A3, n3, c3, rfl, R, S1, B2⟩; have F3 := Lib.hid ((F0.out.got0 S1 B2 R).box #[.int .i64 e.k, .int .i64 e.o, .string e.s, .int .i64 e.v, .slice A3 n3 c3] 42); have X8b := Lib.hid ((ebo B2 n8 X8a.out).on (Nat.succ_pos _) (box_below W3 #[.int .i64 e.k, .int .i64 e.o, .string e.s, .int .i64 e.v, .slice A3 n3 c3] 42)); have X11b := Lib.hid ((ebo B2 n11 X11a.out).on (Nat.succ_pos _) (box_below W3 #[.int .i64 e.k, .int .i64 e.o, .string e.s, .int .i64 e.v, .slice A3 n3 c3] 42)); clear R S1 B2)
    | (go_at_call 62; (with_reducible refine (peek_b _ _ _ F3.out.st).mono ?_); rintro _ W4 ⟨rfl, B2⟩; rw [hz1]; have F4 := Lib.hid (F3.out.below B2); have X8c := Lib.hid (X8b.out.on (Nat.succ_pos _) B2); have X11c := Lib.hid (X11b.out.on (Nat.succ_pos _) B2); clear B2)
    | (go_at_call 64; (with_reducible refine (failed_b _ _ _ F4.out.st).mono ?_); rintro _ _ ⟨rfl, rfl⟩; rw [decide_eq_false (Int.not_lt.2 hs0.out)]; have RI := Lib.hid (F4.out.inH' (List.mem_cons_self ..)); have gt : EBox W4 W3.heap.size [.int .i64 e.k, .int .i64 e.o, .string e.s, .int .i64 e.v, .slice A3 n3 c3] := (F4.out.bx _ (List.mem_cons_self ..)).1; have t0 := gt.cell (i := 0) rfl; have t1 := gt.cell (i := 1) rfl; have t2 := gt.cell (i := 2) rfl; have t3 := gt.cell (i := 3) rfl; have t4 := gt.cell (i := 4) rfl; clear gt)
    | (go_at_call 22; (with_reducible refine (exprNodes_b 40000 e A3 n3 c3 _ HN.out (by decide) RI.out).mono ?_); rintro _ W6 ⟨rfl, B2⟩; have F6 := Lib.hid (F4.out.below B2); have X8d := Lib.hid (X8c.out.on (Nat.succ_pos _) B2); have X11d := Lib.hid (X11c.out.on (Nat.succ_pos _) B2); have RJ := Lib.hid (RI.out.on B2); clear B2 t0 t1 t2 t3 t4; have gt : EBox W6 W3.heap.size [.int .i64 e.k, .int .i64 e.o, .string e.s, .int .i64 e.v, .slice A3 n3 c3] := (F6.out.bx _ (List.mem_cons_self ..)).1; have t0 := gt.cell (i := 0) rfl; have t1 := gt.cell (i := 1) rfl; have t2 := gt.cell (i := 2) rfl; have t3 := gt.cell (i := 3) rfl; have t4 := gt.cell (i := 4) rfl; clear gt; have gx : EBox W6 (w.heap.size + 1) [.int .i64 0, .int .i64 0, .string ⟨#[]⟩, .int .i64 0, .slice none 0 0] := X11d.out; have g0 := gx.cell (i := 0) rfl; have g1 := gx.cell (i := 1) rfl; have g2 := gx.cell (i := 2) rfl; have g3 := gx.cell (i := 3) rfl; have g4 := gx.cell (i := 4) rfl; clear gx)
    | (refine bset5 rk_ex rfl X8d.out rfl rfl ?_; intro V XV BV sV; have h0 := XV.cell (i := 0) rfl; have h1 := XV.cell (i := 1) rfl; have h2 := XV.cell (i := 2) rfl; have h3 := XV.cell (i := 3) rfl; have h4 := XV.cell (i := 4) rfl; have BW := Lib.hid BV; clear XV BV))
  have hlt1 : W1.heap.size ≤ (W1.alloc (.cells #[.slice A toks.length c, .int .i64 0, .int .i64 0] 102)).heap.size := by simp
  exact bodyPost_ret (v := .tuple #[exV zE none 0 0, .int .i64 0, .int .i64 5]) (by simp [results, Tryz.results38, go_sem, Ex.k, Ex.o, Ex.s, Ex.v, zE, h0, h1, h2, h3, h4]) rfl ⟨_, _, _, rfl, RdX.nil _ _ _, ((B1a.out.trans ((F6.out.bb.below (Nat.le_refl _) hlt1).mono B1.out.size)).trans (BW.out.below (Nat.le_refl _) (Nat.le_trans B1a.out.size F6.out.bb.size)))⟩

set_option maxRecDepth 100000 in
set_option maxHeartbeats 2000000 in
theorem parse_4 (s : ByteArray) (w : World) (LL : Lay6 w) (hs : s.size ≤ 9223372036854775807) (h : ¬ (lexv (strL s)).2.2 ≠ 0) (h5 : ¬ (pk (pxq (lexv (strL s)).1).2).k ≠ 5) (hb : (pxq (lexv (strL s)).1).1.nodes ≤ 1000 ∧ 16 < (pxq (lexv (strL s)).1).1.dep) : Calls Tryz.prog 38 #[.string s, .func (.func 39) #[] #[], .func (.func 22) #[] #[], .func (.func 24) #[] #[]] w (GivesP w (pxv (strL s))) := by
  rw [pxv_big h h5 (.inr hb.2)]
  have hz : (w.alloc (.cells zX 42)).heap.size = w.heap.size + 1 := by simp
  have X8 := Lib.hid ((EBox.made w zX 42).on (Nat.succ_pos _) (box_below (w.alloc (.cells zX 42)) zX 42))
  have x11 := EBox.made (w.alloc (.cells zX 42)) zX 42
  rw [hz] at x11
  have X11 := Lib.hid x11
  have B0 : Hid (Below w.heap.size w ((w.alloc (.cells zX 42)).alloc (.cells zX 42))) := Lib.hid ((box_below w zX 42).alloc (by simp) _)
  have HL := Lib.hid LL
  have CL := Lib.hid (fun W L => lex_b s W L hs)
  clear LL x11
  obtain ⟨toks, hL⟩ : ∃ t, (lexv (strL s)).1 = t := ⟨_, rfl⟩
  have h0 : (lexv (strL s)).2.2 = 0 := by simpa using h
  have hgd := Lib.hid (lexv_gd (strL_rng s) h0)
  have hcnt := lexv_cnt (strL s)
  have hP := pxq_some hcnt
  obtain ⟨ln, hln⟩ : ∃ ln, (lexv (strL s)).2.1 = ln := ⟨_, rfl⟩
  have hl0 : lexv (strL s) = (toks, ln, 0) := by rw [← hL, ← hln, ← h0]
  rw [hL] at hgd hcnt hP h5 hb
  rw [hl0] at CL
  obtain ⟨e, he⟩ : ∃ e, (pxq toks).1 = e := ⟨_, rfl⟩
  obtain ⟨s1, hs1⟩ : ∃ s1, (pxq toks).2 = s1 := ⟨_, rfl⟩
  rw [he, hs1] at hP
  rw [hs1] at h5
  rw [he] at hb
  have HE := Lib.hid (fun W b S => (allX 1000001 (by omega)).expression 1000000 (by omega) W b (toks, 0) e s1 S hP.1)
  have HN := Lib.hid hP.2
  have HC := Lib.hid hcnt
  have eg1 : Enters Tryz.prog 39 := enters_of Tryz.func39 (by kernel_rfl) rfl
  have eg2 : Enters Tryz.prog 22 := enters_of Tryz.func22 (by kernel_rfl) rfl
  have eg3 : Enters Tryz.prog 24 := enters_of Tryz.func24 (by kernel_rfl) rfl
  unfold Enters at eg1 eg2 eg3
  have f0 := fld_k
  obtain ⟨z, hz1⟩ : ∃ z, pk s1 = z := ⟨_, rfl⟩
  rw [hz1] at h5
  replace h5 : z.k = 5 := by simpa using h5
  have hs0 : Hid (s1.2 ≤ 0) := Lib.hid (Int.not_lt.1 (pk_k (s := s1) (hz1 ▸ h5) (by decide)).1)
  have q5 : (z.k == 5) = true := beq_iff_eq.2 h5
  have qn : ¬ (1000 : Int) < ((e.nodes : Nat) : Int) := by have := hb.1; omega
  have qd : (16 : Int) < ((e.dep : Nat) : Int) := by have := hb.2; omega
  clear h h5 hL hln hl0 hP hcnt he hs1 h0 hb
  go_enter Tryz.func38, Tryz.ntmps38
  go_wp2_with (first
    | (go_at_call 61; (refine (CL.out _ (HL.out.on B0.out)).mono ?_); rintro _ W1 ⟨A, n, c, rfl, R, hc, B⟩; have R1 := Lib.hid R; have X8' := Lib.hid (X8.out.on (Nat.succ_pos _) B); have X11' := Lib.hid (X11.out.on (Nat.succ_pos _) B); have B1 := Lib.hid (B0.out.trans (B.mono B0.out.size)); clear R B hc; obtain rfl : toks.length = n := R1.out.len; have SM := St.made (c := c) R1.out hgd.out (Nat.le_trans HC.out (by decide)); have F0 := Lib.hid (Fr.start0 SM); have hb8 : w.heap.size + 1 < W1.heap.size := X11'.out.lt (Nat.succ_pos _); have n8 : w.heap.size ≠ W1.heap.size := (by omega); have n11 : w.heap.size + 1 ≠ W1.heap.size := (by omega); have X8a := Lib.hid (X8'.out.on (Nat.succ_pos _) (box_below W1 #[.slice A toks.length c, .int .i64 0, .int .i64 0] 102)); have X11a := Lib.hid (X11'.out.on (Nat.succ_pos _) (box_below W1 #[.slice A toks.length c, .int .i64 0, .int .i64 0] 102)); have B1a := Lib.hid (B1.out.trans ((box_below W1 #[.slice A toks.length c, .int .i64 0, .int .i64 0] 102).mono B1.out.size)); clear SM hb8)
    | (go_at_call 39; (with_reducible refine (HE.out _ _ F0.out.st).mono ?_); rintro _ W3 ⟨A3, n3, c3, rfl, R, S1, B2⟩; have F3 := Lib.hid ((F0.out.got0 S1 B2 R).box #[.int .i64 e.k, .int .i64 e.o, .string e.s, .int .i64 e.v, .slice A3 n3 c3] 42); have X8b := Lib.hid ((ebo B2 n8 X8a.out).on (Nat.succ_pos _) (box_below W3 #[.int .i64 e.k, .int .i64 e.o, .string e.s, .int .i64 e.v, .slice A3 n3 c3] 42)); have X11b := Lib.hid ((ebo B2 n11 X11a.out).on (Nat.succ_pos _) (box_below W3 #[.int .i64 e.k, .int .i64 e.o, .string e.s, .int .i64 e.v, .slice A3 n3 c3] 42)); clear R S1 B2)
    | (go_at_call 62; (with_reducible refine (peek_b _ _ _ F3.out.st).mono ?_); rintro _ W4 ⟨rfl, B2⟩; rw [hz1]; have F4 := Lib.hid (F3.out.below B2); have X8c := Lib.hid (X8b.out.on (Nat.succ_pos _) B2); have X11c := Lib.hid (X11b.out.on (Nat.succ_pos _) B2); clear B2)
    | (go_at_call 64; (with_reducible refine (failed_b _ _ _ F4.out.st).mono ?_); rintro _ _ ⟨rfl, rfl⟩; rw [decide_eq_false (Int.not_lt.2 hs0.out)]; have RI := Lib.hid (F4.out.inH' (List.mem_cons_self ..)); have gt : EBox W4 W3.heap.size [.int .i64 e.k, .int .i64 e.o, .string e.s, .int .i64 e.v, .slice A3 n3 c3] := (F4.out.bx _ (List.mem_cons_self ..)).1; have t0 := gt.cell (i := 0) rfl; have t1 := gt.cell (i := 1) rfl; have t2 := gt.cell (i := 2) rfl; have t3 := gt.cell (i := 3) rfl; have t4 := gt.cell (i := 4) rfl; clear gt)
    | (go_at_call 22; (with_reducible refine (exprNodes_b 40000 e A3 n3 c3 _ HN.out (by decide) RI.out).mono ?_); rintro _ W6 ⟨rfl, B2⟩; have F6 := Lib.hid (F4.out.below B2); have X8d := Lib.hid (X8c.out.on (Nat.succ_pos _) B2); have X11d := Lib.hid (X11c.out.on (Nat.succ_pos _) B2); have RJ := Lib.hid (RI.out.on B2); clear B2 t0 t1 t2 t3 t4; have gt : EBox W6 W3.heap.size [.int .i64 e.k, .int .i64 e.o, .string e.s, .int .i64 e.v, .slice A3 n3 c3] := (F6.out.bx _ (List.mem_cons_self ..)).1; have t0 := gt.cell (i := 0) rfl; have t1 := gt.cell (i := 1) rfl; have t2 := gt.cell (i := 2) rfl; have t3 := gt.cell (i := 3) rfl; have t4 := gt.cell (i := 4) rfl; clear gt)
    | (go_at_call 24; (with_reducible refine (exprDepth_b 40000 e A3 n3 c3 _ HN.out (by decide) RJ.out).mono ?_); rintro _ W7 ⟨rfl, B2⟩; have F7 := Lib.hid (F6.out.below B2); have X8e := Lib.hid (X8d.out.on (Nat.succ_pos _) B2); have X11e := Lib.hid (X11d.out.on (Nat.succ_pos _) B2); clear B2 t0 t1 t2 t3 t4; have gt : EBox W7 W3.heap.size [.int .i64 e.k, .int .i64 e.o, .string e.s, .int .i64 e.v, .slice A3 n3 c3] := (F7.out.bx _ (List.mem_cons_self ..)).1; have t0 := gt.cell (i := 0) rfl; have t1 := gt.cell (i := 1) rfl; have t2 := gt.cell (i := 2) rfl; have t3 := gt.cell (i := 3) rfl; have t4 := gt.cell (i := 4) rfl; clear gt; have gx : EBox W7 (w.heap.size + 1) [.int .i64 0, .int .i64 0, .string ⟨#[]⟩, .int .i64 0, .slice none 0 0] := X11e.out; have g0 := gx.cell (i := 0) rfl; have g1 := gx.cell (i := 1) rfl; have g2 := gx.cell (i := 2) rfl; have g3 := gx.cell (i := 3) rfl; have g4 := gx.cell (i := 4) rfl; clear gx)
    | (refine bset5 rk_ex rfl X8e.out rfl rfl ?_; intro V XV BV sV; have h0 := XV.cell (i := 0) rfl; have h1 := XV.cell (i := 1) rfl; have h2 := XV.cell (i := 2) rfl; have h3 := XV.cell (i := 3) rfl; have h4 := XV.cell (i := 4) rfl; have BW := Lib.hid BV; clear XV BV))
  have hlt1 : W1.heap.size ≤ (W1.alloc (.cells #[.slice A toks.length c, .int .i64 0, .int .i64 0] 102)).heap.size := by simp
  exact bodyPost_ret (v := .tuple #[exV zE none 0 0, .int .i64 0, .int .i64 5]) (by simp [results, Tryz.results38, go_sem, Ex.k, Ex.o, Ex.s, Ex.v, zE, h0, h1, h2, h3, h4]) rfl ⟨_, _, _, rfl, RdX.nil _ _ _, ((B1a.out.trans ((F7.out.bb.below (Nat.le_refl _) hlt1).mono B1.out.size)).trans (BW.out.below (Nat.le_refl _) (Nat.le_trans B1a.out.size F7.out.bb.size)))⟩

set_option maxRecDepth 100000 in
set_option maxHeartbeats 2000000 in
theorem parse_5 (s : ByteArray) (w : World) (LL : Lay6 w) (hs : s.size ≤ 9223372036854775807) (h : ¬ (lexv (strL s)).2.2 ≠ 0) (h5 : ¬ (pk (pxq (lexv (strL s)).1).2).k ≠ 5) (hb : (pxq (lexv (strL s)).1).1.nodes ≤ 1000 ∧ (pxq (lexv (strL s)).1).1.dep ≤ 16) : Calls Tryz.prog 38 #[.string s, .func (.func 39) #[] #[], .func (.func 22) #[] #[], .func (.func 24) #[] #[]] w (GivesP w (pxv (strL s))) := by
  rw [pxv_ok h h5 (by omega)]
  have hz : (w.alloc (.cells zX 42)).heap.size = w.heap.size + 1 := by simp
  have X8 := Lib.hid ((EBox.made w zX 42).on (Nat.succ_pos _) (box_below (w.alloc (.cells zX 42)) zX 42))
  have x11 := EBox.made (w.alloc (.cells zX 42)) zX 42
  rw [hz] at x11
  have X11 := Lib.hid x11
  have B0 : Hid (Below w.heap.size w ((w.alloc (.cells zX 42)).alloc (.cells zX 42))) := Lib.hid ((box_below w zX 42).alloc (by simp) _)
  have HL := Lib.hid LL
  have CL := Lib.hid (fun W L => lex_b s W L hs)
  clear LL x11
  obtain ⟨toks, hL⟩ : ∃ t, (lexv (strL s)).1 = t := ⟨_, rfl⟩
  have h0 : (lexv (strL s)).2.2 = 0 := by simpa using h
  have hgd := Lib.hid (lexv_gd (strL_rng s) h0)
  have hcnt := lexv_cnt (strL s)
  have hP := pxq_some hcnt
  obtain ⟨ln, hln⟩ : ∃ ln, (lexv (strL s)).2.1 = ln := ⟨_, rfl⟩
  have hl0 : lexv (strL s) = (toks, ln, 0) := by rw [← hL, ← hln, ← h0]
  rw [hL] at hgd hcnt hP h5 hb ⊢
  rw [hl0] at CL
  obtain ⟨e, he⟩ : ∃ e, (pxq toks).1 = e := ⟨_, rfl⟩
  obtain ⟨s1, hs1⟩ : ∃ s1, (pxq toks).2 = s1 := ⟨_, rfl⟩
  rw [he, hs1] at hP
  rw [hs1] at h5
  rw [he] at hb ⊢
  have HE := Lib.hid (fun W b S => (allX 1000001 (by omega)).expression 1000000 (by omega) W b (toks, 0) e s1 S hP.1)
  have HN := Lib.hid hP.2
  have HC := Lib.hid hcnt
  have eg1 : Enters Tryz.prog 39 := enters_of Tryz.func39 (by kernel_rfl) rfl
  have eg2 : Enters Tryz.prog 22 := enters_of Tryz.func22 (by kernel_rfl) rfl
  have eg3 : Enters Tryz.prog 24 := enters_of Tryz.func24 (by kernel_rfl) rfl
  unfold Enters at eg1 eg2 eg3
  have f0 := fld_k
  obtain ⟨z, hz1⟩ : ∃ z, pk s1 = z := ⟨_, rfl⟩
  rw [hz1] at h5
  replace h5 : z.k = 5 := by simpa using h5
  have hs0 : Hid (s1.2 ≤ 0) := Lib.hid (Int.not_lt.1 (pk_k (s := s1) (hz1 ▸ h5) (by decide)).1)
  have q5 : (z.k == 5) = true := beq_iff_eq.2 h5
  have qn : ¬ (1000 : Int) < ((e.nodes : Nat) : Int) := by have := hb.1; omega
  have qd : ¬ (16 : Int) < ((e.dep : Nat) : Int) := by have := hb.2; omega
  clear h h5 hL hln hl0 hP hcnt he hs1 h0 hb
  go_enter Tryz.func38, Tryz.ntmps38
  go_wp2_with (first
    | (go_at_call 61; (refine (CL.out _ (HL.out.on B0.out)).mono ?_); rintro _ W1 ⟨A, n, c, rfl, R, hc, B⟩; have R1 := Lib.hid R; have X8' := Lib.hid (X8.out.on (Nat.succ_pos _) B); have X11' := Lib.hid (X11.out.on (Nat.succ_pos _) B); have B1 := Lib.hid (B0.out.trans (B.mono B0.out.size)); clear R B hc; obtain rfl : toks.length = n := R1.out.len; have SM := St.made (c := c) R1.out hgd.out (Nat.le_trans HC.out (by decide)); have F0 := Lib.hid (Fr.start0 SM); have hb8 : w.heap.size + 1 < W1.heap.size := X11'.out.lt (Nat.succ_pos _); have n8 : w.heap.size ≠ W1.heap.size := (by omega); have n11 : w.heap.size + 1 ≠ W1.heap.size := (by omega); have X8a := Lib.hid (X8'.out.on (Nat.succ_pos _) (box_below W1 #[.slice A toks.length c, .int .i64 0, .int .i64 0] 102)); have X11a := Lib.hid (X11'.out.on (Nat.succ_pos _) (box_below W1 #[.slice A toks.length c, .int .i64 0, .int .i64 0] 102)); have B1a := Lib.hid (B1.out.trans ((box_below W1 #[.slice A toks.length c, .int .i64 0, .int .i64 0] 102).mono B1.out.size)); clear SM hb8)
    | (go_at_call 39; (with_reducible refine (HE.out _ _ F0.out.st).mono ?_); rintro _ W3 ⟨A3, n3, c3, rfl, R, S1, B2⟩; have F3 := Lib.hid ((F0.out.got0 S1 B2 R).box #[.int .i64 e.k, .int .i64 e.o, .string e.s, .int .i64 e.v, .slice A3 n3 c3] 42); have X8b := Lib.hid ((ebo B2 n8 X8a.out).on (Nat.succ_pos _) (box_below W3 #[.int .i64 e.k, .int .i64 e.o, .string e.s, .int .i64 e.v, .slice A3 n3 c3] 42)); have X11b := Lib.hid ((ebo B2 n11 X11a.out).on (Nat.succ_pos _) (box_below W3 #[.int .i64 e.k, .int .i64 e.o, .string e.s, .int .i64 e.v, .slice A3 n3 c3] 42)); clear R S1 B2)
    | (go_at_call 62; (with_reducible refine (peek_b _ _ _ F3.out.st).mono ?_); rintro _ W4 ⟨rfl, B2⟩; rw [hz1]; have F4 := Lib.hid (F3.out.below B2); have X8c := Lib.hid (X8b.out.on (Nat.succ_pos _) B2); have X11c := Lib.hid (X11b.out.on (Nat.succ_pos _) B2); clear B2)
    | (go_at_call 64; (with_reducible refine (failed_b _ _ _ F4.out.st).mono ?_); rintro _ _ ⟨rfl, rfl⟩; rw [decide_eq_false (Int.not_lt.2 hs0.out)]; have RI := Lib.hid (F4.out.inH' (List.mem_cons_self ..)); have gt : EBox W4 W3.heap.size [.int .i64 e.k, .int .i64 e.o, .string e.s, .int .i64 e.v, .slice A3 n3 c3] := (F4.out.bx _ (List.mem_cons_self ..)).1; have t0 := gt.cell (i := 0) rfl; have t1 := gt.cell (i := 1) rfl; have t2 := gt.cell (i := 2) rfl; have t3 := gt.cell (i := 3) rfl; have t4 := gt.cell (i := 4) rfl; clear gt)
    | (go_at_call 22; (with_reducible refine (exprNodes_b 40000 e A3 n3 c3 _ HN.out (by decide) RI.out).mono ?_); rintro _ W6 ⟨rfl, B2⟩; have F6 := Lib.hid (F4.out.below B2); have X8d := Lib.hid (X8c.out.on (Nat.succ_pos _) B2); have X11d := Lib.hid (X11c.out.on (Nat.succ_pos _) B2); have RJ := Lib.hid (RI.out.on B2); clear B2 t0 t1 t2 t3 t4; have gt : EBox W6 W3.heap.size [.int .i64 e.k, .int .i64 e.o, .string e.s, .int .i64 e.v, .slice A3 n3 c3] := (F6.out.bx _ (List.mem_cons_self ..)).1; have t0 := gt.cell (i := 0) rfl; have t1 := gt.cell (i := 1) rfl; have t2 := gt.cell (i := 2) rfl; have t3 := gt.cell (i := 3) rfl; have t4 := gt.cell (i := 4) rfl; clear gt)
    | (go_at_call 24; (with_reducible refine (exprDepth_b 40000 e A3 n3 c3 _ HN.out (by decide) RJ.out).mono ?_); rintro _ W7 ⟨rfl, B2⟩; have F7 := Lib.hid (F6.out.below B2); have X8e := Lib.hid (X8d.out.on (Nat.succ_pos _) B2); have X11e := Lib.hid (X11d.out.on (Nat.succ_pos _) B2); clear B2 t0 t1 t2 t3 t4; have gt : EBox W7 W3.heap.size [.int .i64 e.k, .int .i64 e.o, .string e.s, .int .i64 e.v, .slice A3 n3 c3] := (F7.out.bx _ (List.mem_cons_self ..)).1; have t0 := gt.cell (i := 0) rfl; have t1 := gt.cell (i := 1) rfl; have t2 := gt.cell (i := 2) rfl; have t3 := gt.cell (i := 3) rfl; have t4 := gt.cell (i := 4) rfl; clear gt)
    | (refine bset5 rk_ex rfl X8e.out rfl rfl ?_; intro V XV BV sV; have h0 := XV.cell (i := 0) rfl; have h1 := XV.cell (i := 1) rfl; have h2 := XV.cell (i := 2) rfl; have h3 := XV.cell (i := 3) rfl; have h4 := XV.cell (i := 4) rfl; have RV := Lib.hid (RdX.keep (F7.out.tr _ (List.mem_cons_self ..)) (D' := nd no0 w V) (fun k hk => BV.block k (F7.out.nbW hk).1 (nb8 F7.out hk (Nat.lt_of_le_of_lt B1.out.size (by simp)))) (fun k hk => .inr ⟨Nat.le_trans (Nat.le_trans B1.out.size (by simp)) (nb9 hk), Nat.lt_of_lt_of_le (F7.out.nbW hk).1 BV.size⟩)); have BW := Lib.hid BV; clear XV BV))
  have hlt1 : W1.heap.size ≤ (W1.alloc (.cells #[.slice A toks.length c, .int .i64 0, .int .i64 0] 102)).heap.size := by simp
  exact bodyPost_ret (v := .tuple #[exV e A3 n3 c3, .int .i64 0, .int .i64 0]) (by simp [results, Tryz.results38, go_sem, Ex.k, Ex.o, Ex.s, Ex.v, zE, h0, h1, h2, h3, h4]) rfl ⟨_, _, _, rfl, RV.out, ((B1a.out.trans ((F7.out.bb.below (Nat.le_refl _) hlt1).mono B1.out.size)).trans (BW.out.below (Nat.le_refl _) (Nat.le_trans B1a.out.size F7.out.bb.size)))⟩

theorem nd3 {w W : World} {cs : Array Value} {t : TypeId} {k : Nat} (h : nd no0 (w.alloc (.cells cs t)) W k) : w.heap.size < k := by
  rcases h with h | h
  · exact h.elim
  · have := h.1; simp at this; omega
theorem nd2 {w W : World} {cs : Array Value} {t : TypeId} {k : Nat} (h : nd no0 (w.alloc (.cells cs t)) W k) : k ≠ w.heap.size := Nat.ne_of_gt (nd3 h)
theorem nd1 {w W : World} {k : Nat} (h : nd no0 w W k) : k < W.heap.size := by
  rcases h with h | h
  · exact h.elim
  · exact h.2

theorem parse_b (s : ByteArray) (w : World) (LL : Lay6 w) (hs : s.size ≤ 9223372036854775807) : Calls Tryz.prog 38 #[.string s, .func (.func 39) #[] #[], .func (.func 22) #[] #[], .func (.func 24) #[] #[]] w (GivesP w (pxv (strL s))) := by
  by_cases h : (lexv (strL s)).2.2 ≠ 0
  · exact parse_1 s w LL hs h
  · by_cases h5 : (pk (pxq (lexv (strL s)).1).2).k ≠ 5
    · exact parse_2 s w LL hs h h5
    · rcases Nat.lt_or_ge 1000 (pxq (lexv (strL s)).1).1.nodes with h6 | h6
      · exact parse_3 s w LL hs h h5 h6
      · rcases Nat.lt_or_ge 16 (pxq (lexv (strL s)).1).1.dep with h7 | h7
        · exact parse_4 s w LL hs h h5 ⟨h6, h7⟩
        · exact parse_5 s w LL hs h h5 ⟨h6, h7⟩

set_option maxRecDepth 100000 in
set_option maxHeartbeats 2000000 in
theorem parseExpr_b (s : ByteArray) (w : World) (LL : Lay6 w) (hs : s.size ≤ 9223372036854775807) : Calls Tryz.prog 13 #[.string s] w (GivesP w (pxv (strL s))) := by
  have X8 := Lib.hid (EBox.made w zX 42)
  have B0 := Lib.hid (box_below w zX 42)
  have HL := Lib.hid LL
  have CP := Lib.hid (fun W L => parse_b s W L hs)
  obtain ⟨q, hq⟩ : ∃ q, pxv (strL s) = q := ⟨_, rfl⟩
  rw [hq] at CP ⊢
  clear LL hq
  go_enter Tryz.func13, Tryz.ntmps13
  go_wp2_with (first
    | (go_at_call 38; (refine (CP.out _ (HL.out.on B0.out)).mono ?_); rintro _ W1 ⟨A, n, c, rfl, R, B⟩; have R1 := Lib.hid R; have X8' := Lib.hid (X8.out.on (Nat.succ_pos _) B); have B1 := Lib.hid (B0.out.trans (B.mono B0.out.size)); clear R B)
    | (refine bset5 rk_ex rfl X8'.out rfl rfl ?_; intro V XV BV sV; have h0 := XV.cell (i := 0) rfl; have h1 := XV.cell (i := 1) rfl; have h2 := XV.cell (i := 2) rfl; have h3 := XV.cell (i := 3) rfl; have h4 := XV.cell (i := 4) rfl; have RV := Lib.hid (RdX.keep R1.out (D' := nd no0 w V) (fun k hk => BV.block k (nd1 hk) (nd2 hk)) (fun k hk => .inr ⟨Nat.le_of_lt (nd3 hk), Nat.lt_of_lt_of_le (nd1 hk) BV.size⟩)); have BW := Lib.hid BV; clear XV BV))
  exact bodyPost_ret (v := .tuple #[exV q.1 A n c, .int .i64 q.2.1, .int .i64 q.2.2]) (by simp [results, Tryz.results13, go_sem, Ex.k, Ex.o, Ex.s, Ex.v, zE, h0, h1, h2, h3, h4]) rfl ⟨_, _, _, rfl, RV.out, B1.out.trans (BW.out.below (Nat.le_refl _) B1.out.size)⟩

end Go.Proofs.YtjpkcgepdfpbnaaGreatDoor

/- example of the laws of stage 18. -/
namespace Go.Proofs.YtjpkcgepdfpbnaaGreatDoor
open Go.RowKit Go.Sort Go.ChangeShapes Go.WideShapes
set_option linter.unusedVariables false

theorem px1 : pxv [97, 32, 43, 32, 98, 32, 42, 32, 50] = (.mk 6 1 ⟨#[]⟩ 0 [.mk 4 0 ⟨#[97]⟩ 0 [], .mk 6 3 ⟨#[]⟩ 0 [.mk 4 0 ⟨#[98]⟩ 0 [], .mk 2 0 ⟨#[]⟩ 2 []]], 0, 0) := by kernel_rfl
theorem px2 : pxv [97, 32, 60, 32, 98, 32, 60, 32, 99] = (zE, 1, 3) := by kernel_rfl

/-- What example's first call gives. -/
theorem ey1_b (w : World) (LL : Lay6 w) : Calls Tryz.prog 13 #[.string ⟨#[97, 32, 43, 32, 98, 32, 42, 32, 50]⟩] w fun r w' => ∃ b off c v1 v2 v3 v4, r = .returned (.tuple #[.agg #[.int .i64 6, .int .i64 1, .string ⟨#[]⟩, .int .i64 0, .slice (some ⟨b, off, none⟩) 2 c], .int .i64 0, .int .i64 0]) ∧ w'.rangeAt b (off + 5) [v1, .int .i64 3, v2, v3, v4] ∧ Below w.heap.size w w' := by
  refine (parseExpr_b ⟨#[97, 32, 43, 32, 98, 32, 42, 32, 50]⟩ w LL (by decide)).mono fun r w' h => ?_
  have e1 : pxv (strL ⟨#[97, 32, 43, 32, 98, 32, 42, 32, 50]⟩) = (.mk 6 1 ⟨#[]⟩ 0 [.mk 4 0 ⟨#[97]⟩ 0 [], .mk 6 3 ⟨#[]⟩ 0 [.mk 4 0 ⟨#[98]⟩ 0 [], .mk 2 0 ⟨#[]⟩ 2 []]], 0, 0) := px1
  rw [e1] at h
  obtain ⟨A, n, c, rfl, R, B⟩ := h
  obtain rfl : 2 = n := R.len
  obtain ⟨b, off, rfl, -, hr⟩ := R.2.2 (by decide)
  obtain ⟨A2, n2, c2, h2, -⟩ := hr.get (j := 1) rfl
  rw [Nat.one_mul] at h2
  exact ⟨b, off, c, _, _, _, _, rfl, h2, B⟩

theorem ey2_b (w : World) (LL : Lay6 w) : Calls Tryz.prog 13 #[.string ⟨#[97, 32, 60, 32, 98, 32, 60, 32, 99]⟩] w fun r w' => ∃ A n c, r = .returned (.tuple #[.agg #[.int .i64 0, .int .i64 0, .string ⟨#[]⟩, .int .i64 0, .slice A n c], .int .i64 1, .int .i64 3]) ∧ Below w.heap.size w w' := by
  refine (parseExpr_b ⟨#[97, 32, 60, 32, 98, 32, 60, 32, 99]⟩ w LL (by decide)).mono fun r w' h => ?_
  have e1 : pxv (strL ⟨#[97, 32, 60, 32, 98, 32, 60, 32, 99]⟩) = (zE, 1, 3) := px2
  rw [e1] at h
  obtain ⟨A, n, c, rfl, R, B⟩ := h
  exact ⟨A, n, c, rfl, B⟩

set_option maxRecDepth 100000 in
set_option maxHeartbeats 4000000 in
theorem example_b (w : World) (LL : Lay6 w) : Calls Tryz.prog 9 #[] w fun e w' => e = .returned (.bool true) ∧ Below w.heap.size w w' := by
  have HL := Lib.hid LL
  have E1 := Lib.hid (fun W L => ey1_b W L)
  have E2 := Lib.hid (fun W L => ey2_b W L)
  clear LL
  go_enter Tryz.func9, Tryz.ntmps9
  go_wp2_with (first
    | (go_at_call 13; (with_reducible refine (E1.out _ HL.out).mono ?_); rintro _ W1 ⟨b, off, c, v1, v2, v3, v4, rfl, r1, B⟩; have B1 := Lib.hid B; have X1 := Lib.hid (EBox.made W1 #[.int .i64 6, .int .i64 1, .string ⟨#[]⟩, .int .i64 0, .slice (some ⟨b, off, none⟩) 2 c] 42); have BA := Lib.hid (box_below W1 #[.int .i64 6, .int .i64 1, .string ⟨#[]⟩, .int .i64 0, .slice (some ⟨b, off, none⟩) 2 c] 42); have r2 := Lib.hid (rangeAt_on r1 BA.out); clear B r1)
    | (go_at_call 13; (with_reducible refine (E2.out _ (HL.out.on (bon B1.out BA.out))).mono ?_); rintro _ W2 ⟨A2, n2, c2, rfl, B⟩; have B2 := Lib.hid (bon (bon B1.out BA.out) B); have X2 : EBox W2 W1.heap.size _ := X1.out.on (Nat.succ_pos _) B; have BC := Lib.hid (box_below W2 #[.int .i64 0, .int .i64 0, .string ⟨#[]⟩, .int .i64 0, .slice A2 n2 c2] 42); replace X2 := X2.on (Nat.succ_pos _) BC.out; have r3 := rangeAt_on (rangeAt_on r2.out B) BC.out; have x1 := X2.cell (i := 1) rfl; have x4 := X2.cell (i := 4) rfl; have y1 : (W2.alloc (.cells #[.int .i64 0, .int .i64 0, .string ⟨#[]⟩, .int .i64 0, .slice A2 n2 c2] 42)).cell? ⟨b, off + 5 + 1, none⟩ = some (.int .i64 3) := r3 1 _ rfl; clear B r3 X2))
  go_ret
  exact ⟨rfl, bon B2.out BC.out⟩

end Go.Proofs.YtjpkcgepdfpbnaaGreatDoor
