/- Uses of package isa and of the reference; the fields that an instruction uses. Written by tools/gen/genU7.py. -/
import Derived.Test.YtnhnbblplnhmlaaGreatDoorU5
import Derived.Test.YtnhnbblplnhmlaaGreatDoorUR2
namespace Go.Proofs.YtnhnbblplnhmlaaGreatDoor
set_option linter.unusedSimpArgs false
open Go.RowKit Go.Sort Go.ChangeShapes Go.WideShapes
set_option linter.unusedVariables false

theorem Own.since {w : World} {base b n c : Nat} {e : TypeId} {k : IntKind} {A : Option Addr} {l : List Int} (h : Own w base e k A n c l) (hb : b ≤ base) : Own w b e k A n c l :=
  ⟨⟨h.1.1, h.1.2.imp id fun ⟨g, cap, cur, h1, h2, h3⟩ => ⟨g, cap, cur, h1, Nat.le_trans hb h2, h3⟩⟩, h.2.1, Nat.le_trans hb h.2.2⟩

theorem own_none (w : World) (base : Nat) (e : TypeId) (k : IntKind) (h : base ≤ w.heap.size) : Own w base e k none 0 0 [] := ⟨World.ownsRow_nil _ _ _ _, by simp, h⟩

set_option maxRecDepth 100000 in
theorem uses0_b (x : In) (w : World) (h : cl x.o = 0) (hw : x.wf) : Calls Tryz.prog 72 #[.agg (inA x)] w (GivesOwn w w.heap.size 3 .i64 []) := by
  obtain ⟨c0, c1, c2, c3, c4, c5, BB⟩ := boxI w x 24
  obtain ⟨_, _, hwa, hwb, hwc, _⟩ := hw
  have C := Lib.hid (fun W => operands_q x.o W)
  rw [h] at C
  simp only [flg, fD, fA, fB, fC, fI] at C
  have own0 := own_none (w.alloc (.cells (inA x) 24)) (w.alloc (.cells (inA x) 24)).heap.size 3 .i64 (Nat.le_refl _)
  have BO : Below (w.alloc (.cells (inA x) 24)).heap.size (w.alloc (.cells (inA x) 24)) (w.alloc (.cells (inA x) 24)) := Below.refl _ _
  clear h
  go_enter Tryz.func72, Tryz.ntmps72
  go_wp2_with (first | (go_at_call 71; (with_reducible refine (C.out _).mono ?_); rintro _ _ ⟨rfl, rfl⟩))
  go_ret
  exact ⟨_, _, _, rfl, own0.since (BB.size), BB.trans (BO.mono BB.size)⟩

set_option maxRecDepth 100000 in
theorem uses1_b (x : In) (w : World) (h : cl x.o = 1) (hw : x.wf) : Calls Tryz.prog 72 #[.agg (inA x)] w (GivesOwn w w.heap.size 3 .i64 []) := by
  obtain ⟨c0, c1, c2, c3, c4, c5, BB⟩ := boxI w x 24
  obtain ⟨_, _, hwa, hwb, hwc, _⟩ := hw
  have C := Lib.hid (fun W => operands_q x.o W)
  rw [h] at C
  simp only [flg, fD, fA, fB, fC, fI] at C
  have own0 := own_none (w.alloc (.cells (inA x) 24)) (w.alloc (.cells (inA x) 24)).heap.size 3 .i64 (Nat.le_refl _)
  have BO : Below (w.alloc (.cells (inA x) 24)).heap.size (w.alloc (.cells (inA x) 24)) (w.alloc (.cells (inA x) 24)) := Below.refl _ _
  clear h
  go_enter Tryz.func72, Tryz.ntmps72
  go_wp2_with (first | (go_at_call 71; (with_reducible refine (C.out _).mono ?_); rintro _ _ ⟨rfl, rfl⟩))
  go_ret
  exact ⟨_, _, _, rfl, own0.since (BB.size), BB.trans (BO.mono BB.size)⟩

set_option maxRecDepth 100000 in
theorem uses2_b (x : In) (w : World) (h : cl x.o = 2) (hw : x.wf) : Calls Tryz.prog 72 #[.agg (inA x)] w (GivesOwn w w.heap.size 3 .i64 [x.a]) := by
  obtain ⟨c0, c1, c2, c3, c4, c5, BB⟩ := boxI w x 24
  obtain ⟨_, _, hwa, hwb, hwc, _⟩ := hw
  have C := Lib.hid (fun W => operands_q x.o W)
  rw [h] at C
  simp only [flg, fD, fA, fB, fC, fI] at C
  have own0 := own_none (w.alloc (.cells (inA x) 24)) (w.alloc (.cells (inA x) 24)).heap.size 3 .i64 (Nat.le_refl _)
  have BO : Below (w.alloc (.cells (inA x) 24)).heap.size (w.alloc (.cells (inA x) 24)) (w.alloc (.cells (inA x) 24)) := Below.refl _ _
  clear h
  go_enter Tryz.func72, Tryz.ntmps72
  go_wp2_with (first | (go_at_call 71; (with_reducible refine (C.out _).mono ?_); rintro _ _ ⟨rfl, rfl⟩) | (at_builtin; refine app1I _ rfl _ _ _ rfl eI own0 rfl hwa rfl (by first | rfl | simp) (by have q := own0.len; simp at q; unfold maxLen; omega) (by have q := own0.len; simp at q; omega) ?_; intro A1 n1 c1 W1 own1 B1; have BO1 := BO.trans B1; ))
  go_ret
  exact ⟨_, _, _, rfl, own1.since (BB.size), BB.trans (BO1.mono BB.size)⟩

set_option maxRecDepth 100000 in
theorem uses3_b (x : In) (w : World) (h : cl x.o = 3) (hw : x.wf) : Calls Tryz.prog 72 #[.agg (inA x)] w (GivesOwn w w.heap.size 3 .i64 [x.a, x.b]) := by
  obtain ⟨c0, c1, c2, c3, c4, c5, BB⟩ := boxI w x 24
  obtain ⟨_, _, hwa, hwb, hwc, _⟩ := hw
  have C := Lib.hid (fun W => operands_q x.o W)
  rw [h] at C
  simp only [flg, fD, fA, fB, fC, fI] at C
  have own0 := own_none (w.alloc (.cells (inA x) 24)) (w.alloc (.cells (inA x) 24)).heap.size 3 .i64 (Nat.le_refl _)
  have BO : Below (w.alloc (.cells (inA x) 24)).heap.size (w.alloc (.cells (inA x) 24)) (w.alloc (.cells (inA x) 24)) := Below.refl _ _
  clear h
  go_enter Tryz.func72, Tryz.ntmps72
  go_wp2_with (first | (go_at_call 71; (with_reducible refine (C.out _).mono ?_); rintro _ _ ⟨rfl, rfl⟩) | (at_builtin; refine app1I _ rfl _ _ _ rfl eI own1 rfl hwb rfl (by first | rfl | simp) (by have q := own1.len; simp at q; unfold maxLen; omega) (by have q := own1.len; simp at q; omega) ?_; intro A2 n2 c2 W2 own2 B2; have BO2 := BO1.trans B2; ) | (at_builtin; refine app1I _ rfl _ _ _ rfl eI own0 rfl hwa rfl (by first | rfl | simp) (by have q := own0.len; simp at q; unfold maxLen; omega) (by have q := own0.len; simp at q; omega) ?_; intro A1 n1 c1 W1 own1 B1; have BO1 := BO.trans B1; have kb1 := cell_below BO1 c3))
  go_ret
  exact ⟨_, _, _, rfl, own2.since (BB.size), BB.trans (BO2.mono BB.size)⟩

set_option maxRecDepth 100000 in
theorem uses4_b (x : In) (w : World) (h : cl x.o = 4) (hw : x.wf) : Calls Tryz.prog 72 #[.agg (inA x)] w (GivesOwn w w.heap.size 3 .i64 [x.a, x.b, x.c]) := by
  obtain ⟨c0, c1, c2, c3, c4, c5, BB⟩ := boxI w x 24
  obtain ⟨_, _, hwa, hwb, hwc, _⟩ := hw
  have C := Lib.hid (fun W => operands_q x.o W)
  rw [h] at C
  simp only [flg, fD, fA, fB, fC, fI] at C
  have own0 := own_none (w.alloc (.cells (inA x) 24)) (w.alloc (.cells (inA x) 24)).heap.size 3 .i64 (Nat.le_refl _)
  have BO : Below (w.alloc (.cells (inA x) 24)).heap.size (w.alloc (.cells (inA x) 24)) (w.alloc (.cells (inA x) 24)) := Below.refl _ _
  clear h
  go_enter Tryz.func72, Tryz.ntmps72
  go_wp2_with (first | (go_at_call 71; (with_reducible refine (C.out _).mono ?_); rintro _ _ ⟨rfl, rfl⟩) | (at_builtin; refine app1I _ rfl _ _ _ rfl eI own2 rfl hwc rfl (by first | rfl | simp) (by have q := own2.len; simp at q; unfold maxLen; omega) (by have q := own2.len; simp at q; omega) ?_; intro A3 n3 c3 W3 own3 B3; have BO3 := BO2.trans B3; ) | (at_builtin; refine app1I _ rfl _ _ _ rfl eI own1 rfl hwb rfl (by first | rfl | simp) (by have q := own1.len; simp at q; unfold maxLen; omega) (by have q := own1.len; simp at q; omega) ?_; intro A2 n2 c2 W2 own2 B2; have BO2 := BO1.trans B2; have kc2 := cell_below BO2 c4) | (at_builtin; refine app1I _ rfl _ _ _ rfl eI own0 rfl hwa rfl (by first | rfl | simp) (by have q := own0.len; simp at q; unfold maxLen; omega) (by have q := own0.len; simp at q; omega) ?_; intro A1 n1 c1 W1 own1 B1; have BO1 := BO.trans B1; have kb1 := cell_below BO1 c3; have kc1 := cell_below BO1 c4))
  go_ret
  exact ⟨_, _, _, rfl, own3.since (BB.size), BB.trans (BO3.mono BB.size)⟩

set_option maxRecDepth 100000 in
theorem uses5_b (x : In) (w : World) (h : cl x.o = 5) (hw : x.wf) : Calls Tryz.prog 72 #[.agg (inA x)] w (GivesOwn w w.heap.size 3 .i64 []) := by
  obtain ⟨c0, c1, c2, c3, c4, c5, BB⟩ := boxI w x 24
  obtain ⟨_, _, hwa, hwb, hwc, _⟩ := hw
  have C := Lib.hid (fun W => operands_q x.o W)
  rw [h] at C
  simp only [flg, fD, fA, fB, fC, fI] at C
  have own0 := own_none (w.alloc (.cells (inA x) 24)) (w.alloc (.cells (inA x) 24)).heap.size 3 .i64 (Nat.le_refl _)
  have BO : Below (w.alloc (.cells (inA x) 24)).heap.size (w.alloc (.cells (inA x) 24)) (w.alloc (.cells (inA x) 24)) := Below.refl _ _
  clear h
  go_enter Tryz.func72, Tryz.ntmps72
  go_wp2_with (first | (go_at_call 71; (with_reducible refine (C.out _).mono ?_); rintro _ _ ⟨rfl, rfl⟩))
  go_ret
  exact ⟨_, _, _, rfl, own0.since (BB.size), BB.trans (BO.mono BB.size)⟩

set_option maxRecDepth 100000 in
theorem uses6_b (x : In) (w : World) (h : cl x.o = 6) (hw : x.wf) : Calls Tryz.prog 72 #[.agg (inA x)] w (GivesOwn w w.heap.size 3 .i64 [x.a]) := by
  obtain ⟨c0, c1, c2, c3, c4, c5, BB⟩ := boxI w x 24
  obtain ⟨_, _, hwa, hwb, hwc, _⟩ := hw
  have C := Lib.hid (fun W => operands_q x.o W)
  rw [h] at C
  simp only [flg, fD, fA, fB, fC, fI] at C
  have own0 := own_none (w.alloc (.cells (inA x) 24)) (w.alloc (.cells (inA x) 24)).heap.size 3 .i64 (Nat.le_refl _)
  have BO : Below (w.alloc (.cells (inA x) 24)).heap.size (w.alloc (.cells (inA x) 24)) (w.alloc (.cells (inA x) 24)) := Below.refl _ _
  clear h
  go_enter Tryz.func72, Tryz.ntmps72
  go_wp2_with (first | (go_at_call 71; (with_reducible refine (C.out _).mono ?_); rintro _ _ ⟨rfl, rfl⟩) | (at_builtin; refine app1I _ rfl _ _ _ rfl eI own0 rfl hwa rfl (by first | rfl | simp) (by have q := own0.len; simp at q; unfold maxLen; omega) (by have q := own0.len; simp at q; omega) ?_; intro A1 n1 c1 W1 own1 B1; have BO1 := BO.trans B1; ))
  go_ret
  exact ⟨_, _, _, rfl, own1.since (BB.size), BB.trans (BO1.mono BB.size)⟩

set_option maxRecDepth 100000 in
theorem uses7_b (x : In) (w : World) (h : cl x.o = 7) (hw : x.wf) : Calls Tryz.prog 72 #[.agg (inA x)] w (GivesOwn w w.heap.size 3 .i64 [x.a, x.b, x.c]) := by
  obtain ⟨c0, c1, c2, c3, c4, c5, BB⟩ := boxI w x 24
  obtain ⟨_, _, hwa, hwb, hwc, _⟩ := hw
  have C := Lib.hid (fun W => operands_q x.o W)
  rw [h] at C
  simp only [flg, fD, fA, fB, fC, fI] at C
  have own0 := own_none (w.alloc (.cells (inA x) 24)) (w.alloc (.cells (inA x) 24)).heap.size 3 .i64 (Nat.le_refl _)
  have BO : Below (w.alloc (.cells (inA x) 24)).heap.size (w.alloc (.cells (inA x) 24)) (w.alloc (.cells (inA x) 24)) := Below.refl _ _
  clear h
  go_enter Tryz.func72, Tryz.ntmps72
  go_wp2_with (first | (go_at_call 71; (with_reducible refine (C.out _).mono ?_); rintro _ _ ⟨rfl, rfl⟩) | (at_builtin; refine app1I _ rfl _ _ _ rfl eI own2 rfl hwc rfl (by first | rfl | simp) (by have q := own2.len; simp at q; unfold maxLen; omega) (by have q := own2.len; simp at q; omega) ?_; intro A3 n3 c3 W3 own3 B3; have BO3 := BO2.trans B3; ) | (at_builtin; refine app1I _ rfl _ _ _ rfl eI own1 rfl hwb rfl (by first | rfl | simp) (by have q := own1.len; simp at q; unfold maxLen; omega) (by have q := own1.len; simp at q; omega) ?_; intro A2 n2 c2 W2 own2 B2; have BO2 := BO1.trans B2; have kc2 := cell_below BO2 c4) | (at_builtin; refine app1I _ rfl _ _ _ rfl eI own0 rfl hwa rfl (by first | rfl | simp) (by have q := own0.len; simp at q; unfold maxLen; omega) (by have q := own0.len; simp at q; omega) ?_; intro A1 n1 c1 W1 own1 B1; have BO1 := BO.trans B1; have kb1 := cell_below BO1 c3; have kc1 := cell_below BO1 c4))
  go_ret
  exact ⟨_, _, _, rfl, own3.since (BB.size), BB.trans (BO3.mono BB.size)⟩

set_option maxRecDepth 100000 in
theorem uses8_b (x : In) (w : World) (h : cl x.o = 8) (hw : x.wf) : Calls Tryz.prog 72 #[.agg (inA x)] w (GivesOwn w w.heap.size 3 .i64 [x.a]) := by
  obtain ⟨c0, c1, c2, c3, c4, c5, BB⟩ := boxI w x 24
  obtain ⟨_, _, hwa, hwb, hwc, _⟩ := hw
  have C := Lib.hid (fun W => operands_q x.o W)
  rw [h] at C
  simp only [flg, fD, fA, fB, fC, fI] at C
  have own0 := own_none (w.alloc (.cells (inA x) 24)) (w.alloc (.cells (inA x) 24)).heap.size 3 .i64 (Nat.le_refl _)
  have BO : Below (w.alloc (.cells (inA x) 24)).heap.size (w.alloc (.cells (inA x) 24)) (w.alloc (.cells (inA x) 24)) := Below.refl _ _
  clear h
  go_enter Tryz.func72, Tryz.ntmps72
  go_wp2_with (first | (go_at_call 71; (with_reducible refine (C.out _).mono ?_); rintro _ _ ⟨rfl, rfl⟩) | (at_builtin; refine app1I _ rfl _ _ _ rfl eI own0 rfl hwa rfl (by first | rfl | simp) (by have q := own0.len; simp at q; unfold maxLen; omega) (by have q := own0.len; simp at q; omega) ?_; intro A1 n1 c1 W1 own1 B1; have BO1 := BO.trans B1; ))
  go_ret
  exact ⟨_, _, _, rfl, own1.since (BB.size), BB.trans (BO1.mono BB.size)⟩

set_option maxRecDepth 100000 in
theorem uses9_b (x : In) (w : World) (h : cl x.o = 9) (hw : x.wf) : Calls Tryz.prog 72 #[.agg (inA x)] w (GivesOwn w w.heap.size 3 .i64 [x.a]) := by
  obtain ⟨c0, c1, c2, c3, c4, c5, BB⟩ := boxI w x 24
  obtain ⟨_, _, hwa, hwb, hwc, _⟩ := hw
  have C := Lib.hid (fun W => operands_q x.o W)
  rw [h] at C
  simp only [flg, fD, fA, fB, fC, fI] at C
  have own0 := own_none (w.alloc (.cells (inA x) 24)) (w.alloc (.cells (inA x) 24)).heap.size 3 .i64 (Nat.le_refl _)
  have BO : Below (w.alloc (.cells (inA x) 24)).heap.size (w.alloc (.cells (inA x) 24)) (w.alloc (.cells (inA x) 24)) := Below.refl _ _
  clear h
  go_enter Tryz.func72, Tryz.ntmps72
  go_wp2_with (first | (go_at_call 71; (with_reducible refine (C.out _).mono ?_); rintro _ _ ⟨rfl, rfl⟩) | (at_builtin; refine app1I _ rfl _ _ _ rfl eI own0 rfl hwa rfl (by first | rfl | simp) (by have q := own0.len; simp at q; unfold maxLen; omega) (by have q := own0.len; simp at q; omega) ?_; intro A1 n1 c1 W1 own1 B1; have BO1 := BO.trans B1; ))
  go_ret
  exact ⟨_, _, _, rfl, own1.since (BB.size), BB.trans (BO1.mono BB.size)⟩

set_option maxRecDepth 100000 in
theorem uses10_b (x : In) (w : World) (h : cl x.o = 10) (hw : x.wf) : Calls Tryz.prog 72 #[.agg (inA x)] w (GivesOwn w w.heap.size 3 .i64 []) := by
  obtain ⟨c0, c1, c2, c3, c4, c5, BB⟩ := boxI w x 24
  obtain ⟨_, _, hwa, hwb, hwc, _⟩ := hw
  have C := Lib.hid (fun W => operands_q x.o W)
  rw [h] at C
  simp only [flg, fD, fA, fB, fC, fI] at C
  have own0 := own_none (w.alloc (.cells (inA x) 24)) (w.alloc (.cells (inA x) 24)).heap.size 3 .i64 (Nat.le_refl _)
  have BO : Below (w.alloc (.cells (inA x) 24)).heap.size (w.alloc (.cells (inA x) 24)) (w.alloc (.cells (inA x) 24)) := Below.refl _ _
  clear h
  go_enter Tryz.func72, Tryz.ntmps72
  go_wp2_with (first | (go_at_call 71; (with_reducible refine (C.out _).mono ?_); rintro _ _ ⟨rfl, rfl⟩))
  go_ret
  exact ⟨_, _, _, rfl, own0.since (BB.size), BB.trans (BO.mono BB.size)⟩

theorem uses_b (x : In) (w : World) (hw : x.wf) : Calls Tryz.prog 72 #[.agg (inA x)] w (GivesOwn w w.heap.size 3 .i64 (uses x)) := by
  rcases cl_ways x.o with h | h | h | h | h | h | h | h | h | h | h
  · have e : uses x = [] := by unfold uses; rw [h]; rfl
    rw [e]; exact uses0_b x w h hw
  · have e : uses x = [] := by unfold uses; rw [h]; rfl
    rw [e]; exact uses1_b x w h hw
  · have e : uses x = [x.a] := by unfold uses; rw [h]; rfl
    rw [e]; exact uses2_b x w h hw
  · have e : uses x = [x.a, x.b] := by unfold uses; rw [h]; rfl
    rw [e]; exact uses3_b x w h hw
  · have e : uses x = [x.a, x.b, x.c] := by unfold uses; rw [h]; rfl
    rw [e]; exact uses4_b x w h hw
  · have e : uses x = [] := by unfold uses; rw [h]; rfl
    rw [e]; exact uses5_b x w h hw
  · have e : uses x = [x.a] := by unfold uses; rw [h]; rfl
    rw [e]; exact uses6_b x w h hw
  · have e : uses x = [x.a, x.b, x.c] := by unfold uses; rw [h]; rfl
    rw [e]; exact uses7_b x w h hw
  · have e : uses x = [x.a] := by unfold uses; rw [h]; rfl
    rw [e]; exact uses8_b x w h hw
  · have e : uses x = [x.a] := by unfold uses; rw [h]; rfl
    rw [e]; exact uses9_b x w h hw
  · have e : uses x = [] := by unfold uses; rw [h]; rfl
    rw [e]; exact uses10_b x w h hw

set_option maxRecDepth 100000 in
theorem ruses0_b (x : In) (w : World) (h : cl x.o = 0) (hw : x.wf) : Calls Tryz.prog 35 #[.agg (inA x)] w (GivesOwn w w.heap.size 3 .i64 []) := by
  obtain ⟨c0, c1, c2, c3, c4, c5, BB⟩ := boxI w x 24
  obtain ⟨_, _, hwa, hwb, hwc, _⟩ := hw
  have C := Lib.hid (fun W => roperands_q x.o W)
  rw [h] at C
  simp only [flg, fD, fA, fB, fC, fI] at C
  have own0 := Own.made (w.alloc (.cells (inA x) 24)) 3 .i64
  have s2 : (w.alloc (.cells (inA x) 24)).heap.size = w.heap.size + 1 := by simp
  rw [s2] at own0
  have BO : Below (w.alloc (.cells (inA x) 24)).heap.size (w.alloc (.cells (inA x) 24)) ((w.alloc (.cells (inA x) 24)).alloc (.cells #[] 3)) := box_below _ _ _
  clear h
  go_enter Tryz.func35, Tryz.ntmps35
  go_wp2_with (first | (go_at_call 34; (with_reducible refine (C.out _).mono ?_); rintro _ _ ⟨rfl, rfl⟩))
  go_ret
  exact ⟨_, _, _, rfl, own0.since (Nat.le_succ _), BB.trans (BO.mono BB.size)⟩

set_option maxRecDepth 100000 in
theorem ruses1_b (x : In) (w : World) (h : cl x.o = 1) (hw : x.wf) : Calls Tryz.prog 35 #[.agg (inA x)] w (GivesOwn w w.heap.size 3 .i64 []) := by
  obtain ⟨c0, c1, c2, c3, c4, c5, BB⟩ := boxI w x 24
  obtain ⟨_, _, hwa, hwb, hwc, _⟩ := hw
  have C := Lib.hid (fun W => roperands_q x.o W)
  rw [h] at C
  simp only [flg, fD, fA, fB, fC, fI] at C
  have own0 := Own.made (w.alloc (.cells (inA x) 24)) 3 .i64
  have s2 : (w.alloc (.cells (inA x) 24)).heap.size = w.heap.size + 1 := by simp
  rw [s2] at own0
  have BO : Below (w.alloc (.cells (inA x) 24)).heap.size (w.alloc (.cells (inA x) 24)) ((w.alloc (.cells (inA x) 24)).alloc (.cells #[] 3)) := box_below _ _ _
  clear h
  go_enter Tryz.func35, Tryz.ntmps35
  go_wp2_with (first | (go_at_call 34; (with_reducible refine (C.out _).mono ?_); rintro _ _ ⟨rfl, rfl⟩))
  go_ret
  exact ⟨_, _, _, rfl, own0.since (Nat.le_succ _), BB.trans (BO.mono BB.size)⟩

set_option maxRecDepth 100000 in
theorem ruses2_b (x : In) (w : World) (h : cl x.o = 2) (hw : x.wf) : Calls Tryz.prog 35 #[.agg (inA x)] w (GivesOwn w w.heap.size 3 .i64 [x.a]) := by
  obtain ⟨c0, c1, c2, c3, c4, c5, BB⟩ := boxI w x 24
  obtain ⟨_, _, hwa, hwb, hwc, _⟩ := hw
  have C := Lib.hid (fun W => roperands_q x.o W)
  rw [h] at C
  simp only [flg, fD, fA, fB, fC, fI] at C
  have own0 := Own.made (w.alloc (.cells (inA x) 24)) 3 .i64
  have s2 : (w.alloc (.cells (inA x) 24)).heap.size = w.heap.size + 1 := by simp
  rw [s2] at own0
  have BO : Below (w.alloc (.cells (inA x) 24)).heap.size (w.alloc (.cells (inA x) 24)) ((w.alloc (.cells (inA x) 24)).alloc (.cells #[] 3)) := box_below _ _ _
  have ka0 := cell_below (box_below (w.alloc (.cells (inA x) 24)) #[] 3) c2
  clear h
  go_enter Tryz.func35, Tryz.ntmps35
  go_wp2_with (first | (go_at_call 34; (with_reducible refine (C.out _).mono ?_); rintro _ _ ⟨rfl, rfl⟩) | (at_builtin; refine app1I _ rfl _ _ _ rfl eI own0 rfl hwa rfl (by first | rfl | simp) (by have q := own0.len; simp at q; unfold maxLen; omega) (by have q := own0.len; simp at q; omega) ?_; intro A1 n1 c1 W1 own1 B1; have BO1 := BO.trans (B1.mono (Nat.le_of_eq s2)); ))
  go_ret
  exact ⟨_, _, _, rfl, own1.since (Nat.le_succ _), BB.trans (BO1.mono BB.size)⟩

set_option maxRecDepth 100000 in
theorem ruses3_b (x : In) (w : World) (h : cl x.o = 3) (hw : x.wf) : Calls Tryz.prog 35 #[.agg (inA x)] w (GivesOwn w w.heap.size 3 .i64 [x.a, x.b]) := by
  obtain ⟨c0, c1, c2, c3, c4, c5, BB⟩ := boxI w x 24
  obtain ⟨_, _, hwa, hwb, hwc, _⟩ := hw
  have C := Lib.hid (fun W => roperands_q x.o W)
  rw [h] at C
  simp only [flg, fD, fA, fB, fC, fI] at C
  have own0 := Own.made (w.alloc (.cells (inA x) 24)) 3 .i64
  have s2 : (w.alloc (.cells (inA x) 24)).heap.size = w.heap.size + 1 := by simp
  rw [s2] at own0
  have BO : Below (w.alloc (.cells (inA x) 24)).heap.size (w.alloc (.cells (inA x) 24)) ((w.alloc (.cells (inA x) 24)).alloc (.cells #[] 3)) := box_below _ _ _
  have ka0 := cell_below (box_below (w.alloc (.cells (inA x) 24)) #[] 3) c2
  have kb0 := cell_below (box_below (w.alloc (.cells (inA x) 24)) #[] 3) c3
  clear h
  go_enter Tryz.func35, Tryz.ntmps35
  go_wp2_with (first | (go_at_call 34; (with_reducible refine (C.out _).mono ?_); rintro _ _ ⟨rfl, rfl⟩) | (at_builtin; refine app1I _ rfl _ _ _ rfl eI own1 rfl hwb rfl (by first | rfl | simp) (by have q := own1.len; simp at q; unfold maxLen; omega) (by have q := own1.len; simp at q; omega) ?_; intro A2 n2 c2 W2 own2 B2; have BO2 := BO1.trans (B2.mono (Nat.le_of_eq s2)); ) | (at_builtin; refine app1I _ rfl _ _ _ rfl eI own0 rfl hwa rfl (by first | rfl | simp) (by have q := own0.len; simp at q; unfold maxLen; omega) (by have q := own0.len; simp at q; omega) ?_; intro A1 n1 c1 W1 own1 B1; have BO1 := BO.trans (B1.mono (Nat.le_of_eq s2)); have kb1 := cell_below BO1 c3))
  go_ret
  exact ⟨_, _, _, rfl, own2.since (Nat.le_succ _), BB.trans (BO2.mono BB.size)⟩

set_option maxRecDepth 100000 in
theorem ruses4_b (x : In) (w : World) (h : cl x.o = 4) (hw : x.wf) : Calls Tryz.prog 35 #[.agg (inA x)] w (GivesOwn w w.heap.size 3 .i64 [x.a, x.b, x.c]) := by
  obtain ⟨c0, c1, c2, c3, c4, c5, BB⟩ := boxI w x 24
  obtain ⟨_, _, hwa, hwb, hwc, _⟩ := hw
  have C := Lib.hid (fun W => roperands_q x.o W)
  rw [h] at C
  simp only [flg, fD, fA, fB, fC, fI] at C
  have own0 := Own.made (w.alloc (.cells (inA x) 24)) 3 .i64
  have s2 : (w.alloc (.cells (inA x) 24)).heap.size = w.heap.size + 1 := by simp
  rw [s2] at own0
  have BO : Below (w.alloc (.cells (inA x) 24)).heap.size (w.alloc (.cells (inA x) 24)) ((w.alloc (.cells (inA x) 24)).alloc (.cells #[] 3)) := box_below _ _ _
  have ka0 := cell_below (box_below (w.alloc (.cells (inA x) 24)) #[] 3) c2
  have kb0 := cell_below (box_below (w.alloc (.cells (inA x) 24)) #[] 3) c3
  have kc0 := cell_below (box_below (w.alloc (.cells (inA x) 24)) #[] 3) c4
  clear h
  go_enter Tryz.func35, Tryz.ntmps35
  go_wp2_with (first | (go_at_call 34; (with_reducible refine (C.out _).mono ?_); rintro _ _ ⟨rfl, rfl⟩) | (at_builtin; refine app1I _ rfl _ _ _ rfl eI own2 rfl hwc rfl (by first | rfl | simp) (by have q := own2.len; simp at q; unfold maxLen; omega) (by have q := own2.len; simp at q; omega) ?_; intro A3 n3 c3 W3 own3 B3; have BO3 := BO2.trans (B3.mono (Nat.le_of_eq s2)); ) | (at_builtin; refine app1I _ rfl _ _ _ rfl eI own1 rfl hwb rfl (by first | rfl | simp) (by have q := own1.len; simp at q; unfold maxLen; omega) (by have q := own1.len; simp at q; omega) ?_; intro A2 n2 c2 W2 own2 B2; have BO2 := BO1.trans (B2.mono (Nat.le_of_eq s2)); have kc2 := cell_below BO2 c4) | (at_builtin; refine app1I _ rfl _ _ _ rfl eI own0 rfl hwa rfl (by first | rfl | simp) (by have q := own0.len; simp at q; unfold maxLen; omega) (by have q := own0.len; simp at q; omega) ?_; intro A1 n1 c1 W1 own1 B1; have BO1 := BO.trans (B1.mono (Nat.le_of_eq s2)); have kb1 := cell_below BO1 c3; have kc1 := cell_below BO1 c4))
  go_ret
  exact ⟨_, _, _, rfl, own3.since (Nat.le_succ _), BB.trans (BO3.mono BB.size)⟩

set_option maxRecDepth 100000 in
theorem ruses5_b (x : In) (w : World) (h : cl x.o = 5) (hw : x.wf) : Calls Tryz.prog 35 #[.agg (inA x)] w (GivesOwn w w.heap.size 3 .i64 []) := by
  obtain ⟨c0, c1, c2, c3, c4, c5, BB⟩ := boxI w x 24
  obtain ⟨_, _, hwa, hwb, hwc, _⟩ := hw
  have C := Lib.hid (fun W => roperands_q x.o W)
  rw [h] at C
  simp only [flg, fD, fA, fB, fC, fI] at C
  have own0 := Own.made (w.alloc (.cells (inA x) 24)) 3 .i64
  have s2 : (w.alloc (.cells (inA x) 24)).heap.size = w.heap.size + 1 := by simp
  rw [s2] at own0
  have BO : Below (w.alloc (.cells (inA x) 24)).heap.size (w.alloc (.cells (inA x) 24)) ((w.alloc (.cells (inA x) 24)).alloc (.cells #[] 3)) := box_below _ _ _
  clear h
  go_enter Tryz.func35, Tryz.ntmps35
  go_wp2_with (first | (go_at_call 34; (with_reducible refine (C.out _).mono ?_); rintro _ _ ⟨rfl, rfl⟩))
  go_ret
  exact ⟨_, _, _, rfl, own0.since (Nat.le_succ _), BB.trans (BO.mono BB.size)⟩

set_option maxRecDepth 100000 in
theorem ruses6_b (x : In) (w : World) (h : cl x.o = 6) (hw : x.wf) : Calls Tryz.prog 35 #[.agg (inA x)] w (GivesOwn w w.heap.size 3 .i64 [x.a]) := by
  obtain ⟨c0, c1, c2, c3, c4, c5, BB⟩ := boxI w x 24
  obtain ⟨_, _, hwa, hwb, hwc, _⟩ := hw
  have C := Lib.hid (fun W => roperands_q x.o W)
  rw [h] at C
  simp only [flg, fD, fA, fB, fC, fI] at C
  have own0 := Own.made (w.alloc (.cells (inA x) 24)) 3 .i64
  have s2 : (w.alloc (.cells (inA x) 24)).heap.size = w.heap.size + 1 := by simp
  rw [s2] at own0
  have BO : Below (w.alloc (.cells (inA x) 24)).heap.size (w.alloc (.cells (inA x) 24)) ((w.alloc (.cells (inA x) 24)).alloc (.cells #[] 3)) := box_below _ _ _
  have ka0 := cell_below (box_below (w.alloc (.cells (inA x) 24)) #[] 3) c2
  clear h
  go_enter Tryz.func35, Tryz.ntmps35
  go_wp2_with (first | (go_at_call 34; (with_reducible refine (C.out _).mono ?_); rintro _ _ ⟨rfl, rfl⟩) | (at_builtin; refine app1I _ rfl _ _ _ rfl eI own0 rfl hwa rfl (by first | rfl | simp) (by have q := own0.len; simp at q; unfold maxLen; omega) (by have q := own0.len; simp at q; omega) ?_; intro A1 n1 c1 W1 own1 B1; have BO1 := BO.trans (B1.mono (Nat.le_of_eq s2)); ))
  go_ret
  exact ⟨_, _, _, rfl, own1.since (Nat.le_succ _), BB.trans (BO1.mono BB.size)⟩

set_option maxRecDepth 100000 in
theorem ruses7_b (x : In) (w : World) (h : cl x.o = 7) (hw : x.wf) : Calls Tryz.prog 35 #[.agg (inA x)] w (GivesOwn w w.heap.size 3 .i64 [x.a, x.b, x.c]) := by
  obtain ⟨c0, c1, c2, c3, c4, c5, BB⟩ := boxI w x 24
  obtain ⟨_, _, hwa, hwb, hwc, _⟩ := hw
  have C := Lib.hid (fun W => roperands_q x.o W)
  rw [h] at C
  simp only [flg, fD, fA, fB, fC, fI] at C
  have own0 := Own.made (w.alloc (.cells (inA x) 24)) 3 .i64
  have s2 : (w.alloc (.cells (inA x) 24)).heap.size = w.heap.size + 1 := by simp
  rw [s2] at own0
  have BO : Below (w.alloc (.cells (inA x) 24)).heap.size (w.alloc (.cells (inA x) 24)) ((w.alloc (.cells (inA x) 24)).alloc (.cells #[] 3)) := box_below _ _ _
  have ka0 := cell_below (box_below (w.alloc (.cells (inA x) 24)) #[] 3) c2
  have kb0 := cell_below (box_below (w.alloc (.cells (inA x) 24)) #[] 3) c3
  have kc0 := cell_below (box_below (w.alloc (.cells (inA x) 24)) #[] 3) c4
  clear h
  go_enter Tryz.func35, Tryz.ntmps35
  go_wp2_with (first | (go_at_call 34; (with_reducible refine (C.out _).mono ?_); rintro _ _ ⟨rfl, rfl⟩) | (at_builtin; refine app1I _ rfl _ _ _ rfl eI own2 rfl hwc rfl (by first | rfl | simp) (by have q := own2.len; simp at q; unfold maxLen; omega) (by have q := own2.len; simp at q; omega) ?_; intro A3 n3 c3 W3 own3 B3; have BO3 := BO2.trans (B3.mono (Nat.le_of_eq s2)); ) | (at_builtin; refine app1I _ rfl _ _ _ rfl eI own1 rfl hwb rfl (by first | rfl | simp) (by have q := own1.len; simp at q; unfold maxLen; omega) (by have q := own1.len; simp at q; omega) ?_; intro A2 n2 c2 W2 own2 B2; have BO2 := BO1.trans (B2.mono (Nat.le_of_eq s2)); have kc2 := cell_below BO2 c4) | (at_builtin; refine app1I _ rfl _ _ _ rfl eI own0 rfl hwa rfl (by first | rfl | simp) (by have q := own0.len; simp at q; unfold maxLen; omega) (by have q := own0.len; simp at q; omega) ?_; intro A1 n1 c1 W1 own1 B1; have BO1 := BO.trans (B1.mono (Nat.le_of_eq s2)); have kb1 := cell_below BO1 c3; have kc1 := cell_below BO1 c4))
  go_ret
  exact ⟨_, _, _, rfl, own3.since (Nat.le_succ _), BB.trans (BO3.mono BB.size)⟩

set_option maxRecDepth 100000 in
theorem ruses8_b (x : In) (w : World) (h : cl x.o = 8) (hw : x.wf) : Calls Tryz.prog 35 #[.agg (inA x)] w (GivesOwn w w.heap.size 3 .i64 [x.a]) := by
  obtain ⟨c0, c1, c2, c3, c4, c5, BB⟩ := boxI w x 24
  obtain ⟨_, _, hwa, hwb, hwc, _⟩ := hw
  have C := Lib.hid (fun W => roperands_q x.o W)
  rw [h] at C
  simp only [flg, fD, fA, fB, fC, fI] at C
  have own0 := Own.made (w.alloc (.cells (inA x) 24)) 3 .i64
  have s2 : (w.alloc (.cells (inA x) 24)).heap.size = w.heap.size + 1 := by simp
  rw [s2] at own0
  have BO : Below (w.alloc (.cells (inA x) 24)).heap.size (w.alloc (.cells (inA x) 24)) ((w.alloc (.cells (inA x) 24)).alloc (.cells #[] 3)) := box_below _ _ _
  have ka0 := cell_below (box_below (w.alloc (.cells (inA x) 24)) #[] 3) c2
  clear h
  go_enter Tryz.func35, Tryz.ntmps35
  go_wp2_with (first | (go_at_call 34; (with_reducible refine (C.out _).mono ?_); rintro _ _ ⟨rfl, rfl⟩) | (at_builtin; refine app1I _ rfl _ _ _ rfl eI own0 rfl hwa rfl (by first | rfl | simp) (by have q := own0.len; simp at q; unfold maxLen; omega) (by have q := own0.len; simp at q; omega) ?_; intro A1 n1 c1 W1 own1 B1; have BO1 := BO.trans (B1.mono (Nat.le_of_eq s2)); ))
  go_ret
  exact ⟨_, _, _, rfl, own1.since (Nat.le_succ _), BB.trans (BO1.mono BB.size)⟩

set_option maxRecDepth 100000 in
theorem ruses9_b (x : In) (w : World) (h : cl x.o = 9) (hw : x.wf) : Calls Tryz.prog 35 #[.agg (inA x)] w (GivesOwn w w.heap.size 3 .i64 [x.a]) := by
  obtain ⟨c0, c1, c2, c3, c4, c5, BB⟩ := boxI w x 24
  obtain ⟨_, _, hwa, hwb, hwc, _⟩ := hw
  have C := Lib.hid (fun W => roperands_q x.o W)
  rw [h] at C
  simp only [flg, fD, fA, fB, fC, fI] at C
  have own0 := Own.made (w.alloc (.cells (inA x) 24)) 3 .i64
  have s2 : (w.alloc (.cells (inA x) 24)).heap.size = w.heap.size + 1 := by simp
  rw [s2] at own0
  have BO : Below (w.alloc (.cells (inA x) 24)).heap.size (w.alloc (.cells (inA x) 24)) ((w.alloc (.cells (inA x) 24)).alloc (.cells #[] 3)) := box_below _ _ _
  have ka0 := cell_below (box_below (w.alloc (.cells (inA x) 24)) #[] 3) c2
  clear h
  go_enter Tryz.func35, Tryz.ntmps35
  go_wp2_with (first | (go_at_call 34; (with_reducible refine (C.out _).mono ?_); rintro _ _ ⟨rfl, rfl⟩) | (at_builtin; refine app1I _ rfl _ _ _ rfl eI own0 rfl hwa rfl (by first | rfl | simp) (by have q := own0.len; simp at q; unfold maxLen; omega) (by have q := own0.len; simp at q; omega) ?_; intro A1 n1 c1 W1 own1 B1; have BO1 := BO.trans (B1.mono (Nat.le_of_eq s2)); ))
  go_ret
  exact ⟨_, _, _, rfl, own1.since (Nat.le_succ _), BB.trans (BO1.mono BB.size)⟩

set_option maxRecDepth 100000 in
theorem ruses10_b (x : In) (w : World) (h : cl x.o = 10) (hw : x.wf) : Calls Tryz.prog 35 #[.agg (inA x)] w (GivesOwn w w.heap.size 3 .i64 []) := by
  obtain ⟨c0, c1, c2, c3, c4, c5, BB⟩ := boxI w x 24
  obtain ⟨_, _, hwa, hwb, hwc, _⟩ := hw
  have C := Lib.hid (fun W => roperands_q x.o W)
  rw [h] at C
  simp only [flg, fD, fA, fB, fC, fI] at C
  have own0 := Own.made (w.alloc (.cells (inA x) 24)) 3 .i64
  have s2 : (w.alloc (.cells (inA x) 24)).heap.size = w.heap.size + 1 := by simp
  rw [s2] at own0
  have BO : Below (w.alloc (.cells (inA x) 24)).heap.size (w.alloc (.cells (inA x) 24)) ((w.alloc (.cells (inA x) 24)).alloc (.cells #[] 3)) := box_below _ _ _
  clear h
  go_enter Tryz.func35, Tryz.ntmps35
  go_wp2_with (first | (go_at_call 34; (with_reducible refine (C.out _).mono ?_); rintro _ _ ⟨rfl, rfl⟩))
  go_ret
  exact ⟨_, _, _, rfl, own0.since (Nat.le_succ _), BB.trans (BO.mono BB.size)⟩

theorem ruses_b (x : In) (w : World) (hw : x.wf) : Calls Tryz.prog 35 #[.agg (inA x)] w (GivesOwn w w.heap.size 3 .i64 (uses x)) := by
  rcases cl_ways x.o with h | h | h | h | h | h | h | h | h | h | h
  · have e : uses x = [] := by unfold uses; rw [h]; rfl
    rw [e]; exact ruses0_b x w h hw
  · have e : uses x = [] := by unfold uses; rw [h]; rfl
    rw [e]; exact ruses1_b x w h hw
  · have e : uses x = [x.a] := by unfold uses; rw [h]; rfl
    rw [e]; exact ruses2_b x w h hw
  · have e : uses x = [x.a, x.b] := by unfold uses; rw [h]; rfl
    rw [e]; exact ruses3_b x w h hw
  · have e : uses x = [x.a, x.b, x.c] := by unfold uses; rw [h]; rfl
    rw [e]; exact ruses4_b x w h hw
  · have e : uses x = [] := by unfold uses; rw [h]; rfl
    rw [e]; exact ruses5_b x w h hw
  · have e : uses x = [x.a] := by unfold uses; rw [h]; rfl
    rw [e]; exact ruses6_b x w h hw
  · have e : uses x = [x.a, x.b, x.c] := by unfold uses; rw [h]; rfl
    rw [e]; exact ruses7_b x w h hw
  · have e : uses x = [x.a] := by unfold uses; rw [h]; rfl
    rw [e]; exact ruses8_b x w h hw
  · have e : uses x = [x.a] := by unfold uses; rw [h]; rfl
    rw [e]; exact ruses9_b x w h hw
  · have e : uses x = [] := by unfold uses; rw [h]; rfl
    rw [e]; exact ruses10_b x w h hw

set_option maxRecDepth 100000 in
theorem numbers0_b (x : In) (w : World) (h : cl x.o = 0) (hw : x.wf) : Calls Tryz.prog 31 #[.agg (inA x)] w (GivesOwn w w.heap.size 3 .i64 ([] ++ uses x)) := by
  obtain ⟨c0, c1, c2, c3, c4, c5, BB⟩ := boxI w x 24
  have E0 := rngI w x 24
  have hwd := hw.2.1
  have hwi := hw.2.2.2.2.2
  have C := Lib.hid (fun W => operands_q x.o W)
  rw [h] at C
  simp only [flg, fD, fA, fB, fC, fI] at C
  have own0 := own_none (w.alloc (.cells (inA x) 24)) (w.alloc (.cells (inA x) 24)).heap.size 3 .i64 (Nat.le_refl _)
  have BO0 : Below (w.alloc (.cells (inA x) 24)).heap.size (w.alloc (.cells (inA x) 24)) (w.alloc (.cells (inA x) 24)) := Below.refl _ _
  clear h
  go_enter Tryz.func31, Tryz.ntmps31
  go_wp2_with (first | (go_at_call 71; (with_reducible refine (C.out _).mono ?_); rintro _ _ ⟨rfl, rfl⟩) | (at_builtin; refine wpList_app _ rfl _ _ _ rfl eI own6 rfl own5.rd rfl (by have q := own6.len; have q3 := own5.len; have q2 := uses_len x; simp at q; unfold maxLen; omega) (by have q := own6.len; have q3 := own5.len; have q2 := uses_len x; simp at q; omega) ?_; intro A7 n7 c7 W7 own7 B7; have BO7 := BO6.trans B7; have k57 := cell_below BO7 c5) | (go_at_call 72; (with_reducible refine (uses_b x _ hw).mono ?_); rintro _ W5 ⟨A5, n5, d5, rfl, own5, B5⟩; have own6 := own0.on B5; have BO6 := BO0.trans (B5.mono BO0.size)) | (with_reducible refine iload E0 rfl ?_; go_simp))
  go_ret
  exact ⟨_, _, _, rfl, own7.since BB.size, BB.trans (BO7.mono BB.size)⟩

set_option maxRecDepth 100000 in
theorem numbers1_b (x : In) (w : World) (h : cl x.o = 1) (hw : x.wf) : Calls Tryz.prog 31 #[.agg (inA x)] w (GivesOwn w w.heap.size 3 .i64 ([x.d] ++ uses x ++ [x.i])) := by
  obtain ⟨c0, c1, c2, c3, c4, c5, BB⟩ := boxI w x 24
  have E0 := rngI w x 24
  have hwd := hw.2.1
  have hwi := hw.2.2.2.2.2
  have C := Lib.hid (fun W => operands_q x.o W)
  rw [h] at C
  simp only [flg, fD, fA, fB, fC, fI] at C
  have own0 := own_none (w.alloc (.cells (inA x) 24)) (w.alloc (.cells (inA x) 24)).heap.size 3 .i64 (Nat.le_refl _)
  have BO0 : Below (w.alloc (.cells (inA x) 24)).heap.size (w.alloc (.cells (inA x) 24)) (w.alloc (.cells (inA x) 24)) := Below.refl _ _
  clear h
  go_enter Tryz.func31, Tryz.ntmps31
  go_wp2_with (first | (go_at_call 71; (with_reducible refine (C.out _).mono ?_); rintro _ _ ⟨rfl, rfl⟩) | (at_builtin; refine app1I _ rfl _ _ _ rfl eI own7 rfl hwi rfl (by first | rfl | simp) (by have q := own7.len; have q2 := uses_len x; simp at q; unfold maxLen; omega) (by have q := own7.len; have q2 := uses_len x; simp at q; omega) ?_; intro A8 n8 c8 W8 own8 B8; have BO8 := BO7.trans B8) | (at_builtin; refine wpList_app _ rfl _ _ _ rfl eI own6 rfl own5.rd rfl (by have q := own6.len; have q3 := own5.len; have q2 := uses_len x; simp at q; unfold maxLen; omega) (by have q := own6.len; have q3 := own5.len; have q2 := uses_len x; simp at q; omega) ?_; intro A7 n7 c7 W7 own7 B7; have BO7 := BO6.trans B7; have k57 := cell_below BO7 c5) | (go_at_call 72; (with_reducible refine (uses_b x _ hw).mono ?_); rintro _ W5 ⟨A5, n5, d5, rfl, own5, B5⟩; have own6 := own1.on B5; have BO6 := BO1.trans (B5.mono BO1.size)) | (with_reducible refine iload E1 rfl ?_; go_simp) | (at_builtin; refine app1I _ rfl _ _ _ rfl eI own0 rfl hwd rfl (by first | rfl | simp) (by have q := own0.len; simp at q; unfold maxLen; omega) (by have q := own0.len; simp at q; omega) ?_; intro A1 n1 c1' W1 own1 B1; have BO1 := BO0.trans B1; have E1 := rangeAt_on E0 BO1))
  go_ret
  exact ⟨_, _, _, rfl, own8.since BB.size, BB.trans (BO8.mono BB.size)⟩

set_option maxRecDepth 100000 in
theorem numbers2_b (x : In) (w : World) (h : cl x.o = 2) (hw : x.wf) : Calls Tryz.prog 31 #[.agg (inA x)] w (GivesOwn w w.heap.size 3 .i64 ([x.d] ++ uses x)) := by
  obtain ⟨c0, c1, c2, c3, c4, c5, BB⟩ := boxI w x 24
  have E0 := rngI w x 24
  have hwd := hw.2.1
  have hwi := hw.2.2.2.2.2
  have C := Lib.hid (fun W => operands_q x.o W)
  rw [h] at C
  simp only [flg, fD, fA, fB, fC, fI] at C
  have own0 := own_none (w.alloc (.cells (inA x) 24)) (w.alloc (.cells (inA x) 24)).heap.size 3 .i64 (Nat.le_refl _)
  have BO0 : Below (w.alloc (.cells (inA x) 24)).heap.size (w.alloc (.cells (inA x) 24)) (w.alloc (.cells (inA x) 24)) := Below.refl _ _
  clear h
  go_enter Tryz.func31, Tryz.ntmps31
  go_wp2_with (first | (go_at_call 71; (with_reducible refine (C.out _).mono ?_); rintro _ _ ⟨rfl, rfl⟩) | (at_builtin; refine wpList_app _ rfl _ _ _ rfl eI own6 rfl own5.rd rfl (by have q := own6.len; have q3 := own5.len; have q2 := uses_len x; simp at q; unfold maxLen; omega) (by have q := own6.len; have q3 := own5.len; have q2 := uses_len x; simp at q; omega) ?_; intro A7 n7 c7 W7 own7 B7; have BO7 := BO6.trans B7; have k57 := cell_below BO7 c5) | (go_at_call 72; (with_reducible refine (uses_b x _ hw).mono ?_); rintro _ W5 ⟨A5, n5, d5, rfl, own5, B5⟩; have own6 := own1.on B5; have BO6 := BO1.trans (B5.mono BO1.size)) | (with_reducible refine iload E1 rfl ?_; go_simp) | (at_builtin; refine app1I _ rfl _ _ _ rfl eI own0 rfl hwd rfl (by first | rfl | simp) (by have q := own0.len; simp at q; unfold maxLen; omega) (by have q := own0.len; simp at q; omega) ?_; intro A1 n1 c1' W1 own1 B1; have BO1 := BO0.trans B1; have E1 := rangeAt_on E0 BO1))
  go_ret
  exact ⟨_, _, _, rfl, own7.since BB.size, BB.trans (BO7.mono BB.size)⟩

set_option maxRecDepth 100000 in
theorem numbers3_b (x : In) (w : World) (h : cl x.o = 3) (hw : x.wf) : Calls Tryz.prog 31 #[.agg (inA x)] w (GivesOwn w w.heap.size 3 .i64 ([x.d] ++ uses x)) := by
  obtain ⟨c0, c1, c2, c3, c4, c5, BB⟩ := boxI w x 24
  have E0 := rngI w x 24
  have hwd := hw.2.1
  have hwi := hw.2.2.2.2.2
  have C := Lib.hid (fun W => operands_q x.o W)
  rw [h] at C
  simp only [flg, fD, fA, fB, fC, fI] at C
  have own0 := own_none (w.alloc (.cells (inA x) 24)) (w.alloc (.cells (inA x) 24)).heap.size 3 .i64 (Nat.le_refl _)
  have BO0 : Below (w.alloc (.cells (inA x) 24)).heap.size (w.alloc (.cells (inA x) 24)) (w.alloc (.cells (inA x) 24)) := Below.refl _ _
  clear h
  go_enter Tryz.func31, Tryz.ntmps31
  go_wp2_with (first | (go_at_call 71; (with_reducible refine (C.out _).mono ?_); rintro _ _ ⟨rfl, rfl⟩) | (at_builtin; refine wpList_app _ rfl _ _ _ rfl eI own6 rfl own5.rd rfl (by have q := own6.len; have q3 := own5.len; have q2 := uses_len x; simp at q; unfold maxLen; omega) (by have q := own6.len; have q3 := own5.len; have q2 := uses_len x; simp at q; omega) ?_; intro A7 n7 c7 W7 own7 B7; have BO7 := BO6.trans B7; have k57 := cell_below BO7 c5) | (go_at_call 72; (with_reducible refine (uses_b x _ hw).mono ?_); rintro _ W5 ⟨A5, n5, d5, rfl, own5, B5⟩; have own6 := own1.on B5; have BO6 := BO1.trans (B5.mono BO1.size)) | (with_reducible refine iload E1 rfl ?_; go_simp) | (at_builtin; refine app1I _ rfl _ _ _ rfl eI own0 rfl hwd rfl (by first | rfl | simp) (by have q := own0.len; simp at q; unfold maxLen; omega) (by have q := own0.len; simp at q; omega) ?_; intro A1 n1 c1' W1 own1 B1; have BO1 := BO0.trans B1; have E1 := rangeAt_on E0 BO1))
  go_ret
  exact ⟨_, _, _, rfl, own7.since BB.size, BB.trans (BO7.mono BB.size)⟩

set_option maxRecDepth 100000 in
theorem numbers4_b (x : In) (w : World) (h : cl x.o = 4) (hw : x.wf) : Calls Tryz.prog 31 #[.agg (inA x)] w (GivesOwn w w.heap.size 3 .i64 ([x.d] ++ uses x)) := by
  obtain ⟨c0, c1, c2, c3, c4, c5, BB⟩ := boxI w x 24
  have E0 := rngI w x 24
  have hwd := hw.2.1
  have hwi := hw.2.2.2.2.2
  have C := Lib.hid (fun W => operands_q x.o W)
  rw [h] at C
  simp only [flg, fD, fA, fB, fC, fI] at C
  have own0 := own_none (w.alloc (.cells (inA x) 24)) (w.alloc (.cells (inA x) 24)).heap.size 3 .i64 (Nat.le_refl _)
  have BO0 : Below (w.alloc (.cells (inA x) 24)).heap.size (w.alloc (.cells (inA x) 24)) (w.alloc (.cells (inA x) 24)) := Below.refl _ _
  clear h
  go_enter Tryz.func31, Tryz.ntmps31
  go_wp2_with (first | (go_at_call 71; (with_reducible refine (C.out _).mono ?_); rintro _ _ ⟨rfl, rfl⟩) | (at_builtin; refine wpList_app _ rfl _ _ _ rfl eI own6 rfl own5.rd rfl (by have q := own6.len; have q3 := own5.len; have q2 := uses_len x; simp at q; unfold maxLen; omega) (by have q := own6.len; have q3 := own5.len; have q2 := uses_len x; simp at q; omega) ?_; intro A7 n7 c7 W7 own7 B7; have BO7 := BO6.trans B7; have k57 := cell_below BO7 c5) | (go_at_call 72; (with_reducible refine (uses_b x _ hw).mono ?_); rintro _ W5 ⟨A5, n5, d5, rfl, own5, B5⟩; have own6 := own1.on B5; have BO6 := BO1.trans (B5.mono BO1.size)) | (with_reducible refine iload E1 rfl ?_; go_simp) | (at_builtin; refine app1I _ rfl _ _ _ rfl eI own0 rfl hwd rfl (by first | rfl | simp) (by have q := own0.len; simp at q; unfold maxLen; omega) (by have q := own0.len; simp at q; omega) ?_; intro A1 n1 c1' W1 own1 B1; have BO1 := BO0.trans B1; have E1 := rangeAt_on E0 BO1))
  go_ret
  exact ⟨_, _, _, rfl, own7.since BB.size, BB.trans (BO7.mono BB.size)⟩

set_option maxRecDepth 100000 in
theorem numbers5_b (x : In) (w : World) (h : cl x.o = 5) (hw : x.wf) : Calls Tryz.prog 31 #[.agg (inA x)] w (GivesOwn w w.heap.size 3 .i64 ([x.d] ++ uses x ++ [x.i])) := by
  obtain ⟨c0, c1, c2, c3, c4, c5, BB⟩ := boxI w x 24
  have E0 := rngI w x 24
  have hwd := hw.2.1
  have hwi := hw.2.2.2.2.2
  have C := Lib.hid (fun W => operands_q x.o W)
  rw [h] at C
  simp only [flg, fD, fA, fB, fC, fI] at C
  have own0 := own_none (w.alloc (.cells (inA x) 24)) (w.alloc (.cells (inA x) 24)).heap.size 3 .i64 (Nat.le_refl _)
  have BO0 : Below (w.alloc (.cells (inA x) 24)).heap.size (w.alloc (.cells (inA x) 24)) (w.alloc (.cells (inA x) 24)) := Below.refl _ _
  clear h
  go_enter Tryz.func31, Tryz.ntmps31
  go_wp2_with (first | (go_at_call 71; (with_reducible refine (C.out _).mono ?_); rintro _ _ ⟨rfl, rfl⟩) | (at_builtin; refine app1I _ rfl _ _ _ rfl eI own7 rfl hwi rfl (by first | rfl | simp) (by have q := own7.len; have q2 := uses_len x; simp at q; unfold maxLen; omega) (by have q := own7.len; have q2 := uses_len x; simp at q; omega) ?_; intro A8 n8 c8 W8 own8 B8; have BO8 := BO7.trans B8) | (at_builtin; refine wpList_app _ rfl _ _ _ rfl eI own6 rfl own5.rd rfl (by have q := own6.len; have q3 := own5.len; have q2 := uses_len x; simp at q; unfold maxLen; omega) (by have q := own6.len; have q3 := own5.len; have q2 := uses_len x; simp at q; omega) ?_; intro A7 n7 c7 W7 own7 B7; have BO7 := BO6.trans B7; have k57 := cell_below BO7 c5) | (go_at_call 72; (with_reducible refine (uses_b x _ hw).mono ?_); rintro _ W5 ⟨A5, n5, d5, rfl, own5, B5⟩; have own6 := own1.on B5; have BO6 := BO1.trans (B5.mono BO1.size)) | (with_reducible refine iload E1 rfl ?_; go_simp) | (at_builtin; refine app1I _ rfl _ _ _ rfl eI own0 rfl hwd rfl (by first | rfl | simp) (by have q := own0.len; simp at q; unfold maxLen; omega) (by have q := own0.len; simp at q; omega) ?_; intro A1 n1 c1' W1 own1 B1; have BO1 := BO0.trans B1; have E1 := rangeAt_on E0 BO1))
  go_ret
  exact ⟨_, _, _, rfl, own8.since BB.size, BB.trans (BO8.mono BB.size)⟩

set_option maxRecDepth 100000 in
theorem numbers6_b (x : In) (w : World) (h : cl x.o = 6) (hw : x.wf) : Calls Tryz.prog 31 #[.agg (inA x)] w (GivesOwn w w.heap.size 3 .i64 ([] ++ uses x ++ [x.i])) := by
  obtain ⟨c0, c1, c2, c3, c4, c5, BB⟩ := boxI w x 24
  have E0 := rngI w x 24
  have hwd := hw.2.1
  have hwi := hw.2.2.2.2.2
  have C := Lib.hid (fun W => operands_q x.o W)
  rw [h] at C
  simp only [flg, fD, fA, fB, fC, fI] at C
  have own0 := own_none (w.alloc (.cells (inA x) 24)) (w.alloc (.cells (inA x) 24)).heap.size 3 .i64 (Nat.le_refl _)
  have BO0 : Below (w.alloc (.cells (inA x) 24)).heap.size (w.alloc (.cells (inA x) 24)) (w.alloc (.cells (inA x) 24)) := Below.refl _ _
  clear h
  go_enter Tryz.func31, Tryz.ntmps31
  go_wp2_with (first | (go_at_call 71; (with_reducible refine (C.out _).mono ?_); rintro _ _ ⟨rfl, rfl⟩) | (at_builtin; refine app1I _ rfl _ _ _ rfl eI own7 rfl hwi rfl (by first | rfl | simp) (by have q := own7.len; have q2 := uses_len x; simp at q; unfold maxLen; omega) (by have q := own7.len; have q2 := uses_len x; simp at q; omega) ?_; intro A8 n8 c8 W8 own8 B8; have BO8 := BO7.trans B8) | (at_builtin; refine wpList_app _ rfl _ _ _ rfl eI own6 rfl own5.rd rfl (by have q := own6.len; have q3 := own5.len; have q2 := uses_len x; simp at q; unfold maxLen; omega) (by have q := own6.len; have q3 := own5.len; have q2 := uses_len x; simp at q; omega) ?_; intro A7 n7 c7 W7 own7 B7; have BO7 := BO6.trans B7; have k57 := cell_below BO7 c5) | (go_at_call 72; (with_reducible refine (uses_b x _ hw).mono ?_); rintro _ W5 ⟨A5, n5, d5, rfl, own5, B5⟩; have own6 := own0.on B5; have BO6 := BO0.trans (B5.mono BO0.size)) | (with_reducible refine iload E0 rfl ?_; go_simp))
  go_ret
  exact ⟨_, _, _, rfl, own8.since BB.size, BB.trans (BO8.mono BB.size)⟩

set_option maxRecDepth 100000 in
theorem numbers7_b (x : In) (w : World) (h : cl x.o = 7) (hw : x.wf) : Calls Tryz.prog 31 #[.agg (inA x)] w (GivesOwn w w.heap.size 3 .i64 ([x.d] ++ uses x ++ [x.i])) := by
  obtain ⟨c0, c1, c2, c3, c4, c5, BB⟩ := boxI w x 24
  have E0 := rngI w x 24
  have hwd := hw.2.1
  have hwi := hw.2.2.2.2.2
  have C := Lib.hid (fun W => operands_q x.o W)
  rw [h] at C
  simp only [flg, fD, fA, fB, fC, fI] at C
  have own0 := own_none (w.alloc (.cells (inA x) 24)) (w.alloc (.cells (inA x) 24)).heap.size 3 .i64 (Nat.le_refl _)
  have BO0 : Below (w.alloc (.cells (inA x) 24)).heap.size (w.alloc (.cells (inA x) 24)) (w.alloc (.cells (inA x) 24)) := Below.refl _ _
  clear h
  go_enter Tryz.func31, Tryz.ntmps31
  go_wp2_with (first | (go_at_call 71; (with_reducible refine (C.out _).mono ?_); rintro _ _ ⟨rfl, rfl⟩) | (at_builtin; refine app1I _ rfl _ _ _ rfl eI own7 rfl hwi rfl (by first | rfl | simp) (by have q := own7.len; have q2 := uses_len x; simp at q; unfold maxLen; omega) (by have q := own7.len; have q2 := uses_len x; simp at q; omega) ?_; intro A8 n8 c8 W8 own8 B8; have BO8 := BO7.trans B8) | (at_builtin; refine wpList_app _ rfl _ _ _ rfl eI own6 rfl own5.rd rfl (by have q := own6.len; have q3 := own5.len; have q2 := uses_len x; simp at q; unfold maxLen; omega) (by have q := own6.len; have q3 := own5.len; have q2 := uses_len x; simp at q; omega) ?_; intro A7 n7 c7 W7 own7 B7; have BO7 := BO6.trans B7; have k57 := cell_below BO7 c5) | (go_at_call 72; (with_reducible refine (uses_b x _ hw).mono ?_); rintro _ W5 ⟨A5, n5, d5, rfl, own5, B5⟩; have own6 := own1.on B5; have BO6 := BO1.trans (B5.mono BO1.size)) | (with_reducible refine iload E1 rfl ?_; go_simp) | (at_builtin; refine app1I _ rfl _ _ _ rfl eI own0 rfl hwd rfl (by first | rfl | simp) (by have q := own0.len; simp at q; unfold maxLen; omega) (by have q := own0.len; simp at q; omega) ?_; intro A1 n1 c1' W1 own1 B1; have BO1 := BO0.trans B1; have E1 := rangeAt_on E0 BO1))
  go_ret
  exact ⟨_, _, _, rfl, own8.since BB.size, BB.trans (BO8.mono BB.size)⟩

set_option maxRecDepth 100000 in
theorem numbers8_b (x : In) (w : World) (h : cl x.o = 8) (hw : x.wf) : Calls Tryz.prog 31 #[.agg (inA x)] w (GivesOwn w w.heap.size 3 .i64 ([x.d] ++ uses x ++ [x.i])) := by
  obtain ⟨c0, c1, c2, c3, c4, c5, BB⟩ := boxI w x 24
  have E0 := rngI w x 24
  have hwd := hw.2.1
  have hwi := hw.2.2.2.2.2
  have C := Lib.hid (fun W => operands_q x.o W)
  rw [h] at C
  simp only [flg, fD, fA, fB, fC, fI] at C
  have own0 := own_none (w.alloc (.cells (inA x) 24)) (w.alloc (.cells (inA x) 24)).heap.size 3 .i64 (Nat.le_refl _)
  have BO0 : Below (w.alloc (.cells (inA x) 24)).heap.size (w.alloc (.cells (inA x) 24)) (w.alloc (.cells (inA x) 24)) := Below.refl _ _
  clear h
  go_enter Tryz.func31, Tryz.ntmps31
  go_wp2_with (first | (go_at_call 71; (with_reducible refine (C.out _).mono ?_); rintro _ _ ⟨rfl, rfl⟩) | (at_builtin; refine app1I _ rfl _ _ _ rfl eI own7 rfl hwi rfl (by first | rfl | simp) (by have q := own7.len; have q2 := uses_len x; simp at q; unfold maxLen; omega) (by have q := own7.len; have q2 := uses_len x; simp at q; omega) ?_; intro A8 n8 c8 W8 own8 B8; have BO8 := BO7.trans B8) | (at_builtin; refine wpList_app _ rfl _ _ _ rfl eI own6 rfl own5.rd rfl (by have q := own6.len; have q3 := own5.len; have q2 := uses_len x; simp at q; unfold maxLen; omega) (by have q := own6.len; have q3 := own5.len; have q2 := uses_len x; simp at q; omega) ?_; intro A7 n7 c7 W7 own7 B7; have BO7 := BO6.trans B7; have k57 := cell_below BO7 c5) | (go_at_call 72; (with_reducible refine (uses_b x _ hw).mono ?_); rintro _ W5 ⟨A5, n5, d5, rfl, own5, B5⟩; have own6 := own1.on B5; have BO6 := BO1.trans (B5.mono BO1.size)) | (with_reducible refine iload E1 rfl ?_; go_simp) | (at_builtin; refine app1I _ rfl _ _ _ rfl eI own0 rfl hwd rfl (by first | rfl | simp) (by have q := own0.len; simp at q; unfold maxLen; omega) (by have q := own0.len; simp at q; omega) ?_; intro A1 n1 c1' W1 own1 B1; have BO1 := BO0.trans B1; have E1 := rangeAt_on E0 BO1))
  go_ret
  exact ⟨_, _, _, rfl, own8.since BB.size, BB.trans (BO8.mono BB.size)⟩

set_option maxRecDepth 100000 in
theorem numbers9_b (x : In) (w : World) (h : cl x.o = 9) (hw : x.wf) : Calls Tryz.prog 31 #[.agg (inA x)] w (GivesOwn w w.heap.size 3 .i64 ([] ++ uses x)) := by
  obtain ⟨c0, c1, c2, c3, c4, c5, BB⟩ := boxI w x 24
  have E0 := rngI w x 24
  have hwd := hw.2.1
  have hwi := hw.2.2.2.2.2
  have C := Lib.hid (fun W => operands_q x.o W)
  rw [h] at C
  simp only [flg, fD, fA, fB, fC, fI] at C
  have own0 := own_none (w.alloc (.cells (inA x) 24)) (w.alloc (.cells (inA x) 24)).heap.size 3 .i64 (Nat.le_refl _)
  have BO0 : Below (w.alloc (.cells (inA x) 24)).heap.size (w.alloc (.cells (inA x) 24)) (w.alloc (.cells (inA x) 24)) := Below.refl _ _
  clear h
  go_enter Tryz.func31, Tryz.ntmps31
  go_wp2_with (first | (go_at_call 71; (with_reducible refine (C.out _).mono ?_); rintro _ _ ⟨rfl, rfl⟩) | (at_builtin; refine wpList_app _ rfl _ _ _ rfl eI own6 rfl own5.rd rfl (by have q := own6.len; have q3 := own5.len; have q2 := uses_len x; simp at q; unfold maxLen; omega) (by have q := own6.len; have q3 := own5.len; have q2 := uses_len x; simp at q; omega) ?_; intro A7 n7 c7 W7 own7 B7; have BO7 := BO6.trans B7; have k57 := cell_below BO7 c5) | (go_at_call 72; (with_reducible refine (uses_b x _ hw).mono ?_); rintro _ W5 ⟨A5, n5, d5, rfl, own5, B5⟩; have own6 := own0.on B5; have BO6 := BO0.trans (B5.mono BO0.size)) | (with_reducible refine iload E0 rfl ?_; go_simp))
  go_ret
  exact ⟨_, _, _, rfl, own7.since BB.size, BB.trans (BO7.mono BB.size)⟩

set_option maxRecDepth 100000 in
theorem numbers10_b (x : In) (w : World) (h : cl x.o = 10) (hw : x.wf) : Calls Tryz.prog 31 #[.agg (inA x)] w (GivesOwn w w.heap.size 3 .i64 ([] ++ uses x ++ [x.i])) := by
  obtain ⟨c0, c1, c2, c3, c4, c5, BB⟩ := boxI w x 24
  have E0 := rngI w x 24
  have hwd := hw.2.1
  have hwi := hw.2.2.2.2.2
  have C := Lib.hid (fun W => operands_q x.o W)
  rw [h] at C
  simp only [flg, fD, fA, fB, fC, fI] at C
  have own0 := own_none (w.alloc (.cells (inA x) 24)) (w.alloc (.cells (inA x) 24)).heap.size 3 .i64 (Nat.le_refl _)
  have BO0 : Below (w.alloc (.cells (inA x) 24)).heap.size (w.alloc (.cells (inA x) 24)) (w.alloc (.cells (inA x) 24)) := Below.refl _ _
  clear h
  go_enter Tryz.func31, Tryz.ntmps31
  go_wp2_with (first | (go_at_call 71; (with_reducible refine (C.out _).mono ?_); rintro _ _ ⟨rfl, rfl⟩) | (at_builtin; refine app1I _ rfl _ _ _ rfl eI own7 rfl hwi rfl (by first | rfl | simp) (by have q := own7.len; have q2 := uses_len x; simp at q; unfold maxLen; omega) (by have q := own7.len; have q2 := uses_len x; simp at q; omega) ?_; intro A8 n8 c8 W8 own8 B8; have BO8 := BO7.trans B8) | (at_builtin; refine wpList_app _ rfl _ _ _ rfl eI own6 rfl own5.rd rfl (by have q := own6.len; have q3 := own5.len; have q2 := uses_len x; simp at q; unfold maxLen; omega) (by have q := own6.len; have q3 := own5.len; have q2 := uses_len x; simp at q; omega) ?_; intro A7 n7 c7 W7 own7 B7; have BO7 := BO6.trans B7; have k57 := cell_below BO7 c5) | (go_at_call 72; (with_reducible refine (uses_b x _ hw).mono ?_); rintro _ W5 ⟨A5, n5, d5, rfl, own5, B5⟩; have own6 := own0.on B5; have BO6 := BO0.trans (B5.mono BO0.size)) | (with_reducible refine iload E0 rfl ?_; go_simp))
  go_ret
  exact ⟨_, _, _, rfl, own8.since BB.size, BB.trans (BO8.mono BB.size)⟩

theorem numbers_b (x : In) (w : World) (hw : x.wf) : Calls Tryz.prog 31 #[.agg (inA x)] w (GivesOwn w w.heap.size 3 .i64 (nums x)) := by
  rcases cl_ways x.o with h | h | h | h | h | h | h | h | h | h | h
  · have e : nums x = [] ++ uses x := by unfold nums; rw [h]; simp [fD, fI]
    rw [e]; exact numbers0_b x w h hw
  · have e : nums x = [x.d] ++ uses x ++ [x.i] := by unfold nums; rw [h]; simp [fD, fI]
    rw [e]; exact numbers1_b x w h hw
  · have e : nums x = [x.d] ++ uses x := by unfold nums; rw [h]; simp [fD, fI]
    rw [e]; exact numbers2_b x w h hw
  · have e : nums x = [x.d] ++ uses x := by unfold nums; rw [h]; simp [fD, fI]
    rw [e]; exact numbers3_b x w h hw
  · have e : nums x = [x.d] ++ uses x := by unfold nums; rw [h]; simp [fD, fI]
    rw [e]; exact numbers4_b x w h hw
  · have e : nums x = [x.d] ++ uses x ++ [x.i] := by unfold nums; rw [h]; simp [fD, fI]
    rw [e]; exact numbers5_b x w h hw
  · have e : nums x = [] ++ uses x ++ [x.i] := by unfold nums; rw [h]; simp [fD, fI]
    rw [e]; exact numbers6_b x w h hw
  · have e : nums x = [x.d] ++ uses x ++ [x.i] := by unfold nums; rw [h]; simp [fD, fI]
    rw [e]; exact numbers7_b x w h hw
  · have e : nums x = [x.d] ++ uses x ++ [x.i] := by unfold nums; rw [h]; simp [fD, fI]
    rw [e]; exact numbers8_b x w h hw
  · have e : nums x = [] ++ uses x := by unfold nums; rw [h]; simp [fD, fI]
    rw [e]; exact numbers9_b x w h hw
  · have e : nums x = [] ++ uses x ++ [x.i] := by unfold nums; rw [h]; simp [fD, fI]
    rw [e]; exact numbers10_b x w h hw

end Go.Proofs.YtnhnbblplnhmlaaGreatDoor
