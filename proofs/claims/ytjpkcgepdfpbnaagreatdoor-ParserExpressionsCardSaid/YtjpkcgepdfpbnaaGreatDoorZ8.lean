/- add of the scanner. Written by tools/gen/genZ8.py. -/
import Derived.Test.YtjpkcgepdfpbnaaGreatDoorZ7
namespace Go.Proofs.YtjpkcgepdfpbnaaGreatDoor
open Go.RowKit Go.Sort Go.ChangeShapes Go.WideShapes
set_option linter.unusedVariables false

section
variable {P : Program} {ops : Array Oper} {C : World → Prop}
theorem quiet_tval {K : Act → Prop} {o : Oper} {a : Act} (v : Value) (hv : ∀ W, C W → (execOp a.eval o).run P W = .ok (.value v) W) (hk : K (a.put o.dst v)) : o.quiet P a C K := by
  refine ⟨v, fun W hW => ?_, hk⟩
  unfold Oper.quietAt
  rw [hv W hW]
  exact ⟨rfl, rfl⟩
end

theorem Scn.setTok {W V : World} {b : Nat} {s : ByteArray} {p ln : Nat} {out out2 : List Tk} {A : Option Addr} {c : Nat} (h : Scn W b s p ln out) (own : OwnT V (b + 1) A out2.length c out2) (B : Below (b + 1) W V) (c3 : ∃ u, V.cell? ⟨b, 3, none⟩ = some u) :
    Scn (V.setCell ⟨b, 3, none⟩ (.slice A out2.length c)) b s p ln out2 := by
  obtain ⟨u, hu⟩ := c3
  refine ⟨?_, ?_, ?_, ⟨A, c, World.cell?_setCell_same _ _ _ hu, own_set own⟩, fun i => by rw [World.frozen?_setCell]; exact (B.frozen (p := ⟨b, i, none⟩) (Nat.lt_succ_self b)).trans (h.fre i)⟩
  · rw [World.cell?_setCell_other _ _ _ _ (by intro e; injection e; omega)]; exact (B.cell (p := ⟨b, 0, none⟩) (Nat.lt_succ_self b)).trans h.txt
  · rw [World.cell?_setCell_other _ _ _ _ (by intro e; injection e; omega)]; exact (B.cell (p := ⟨b, 1, none⟩) (Nat.lt_succ_self b)).trans h.pos
  · rw [World.cell?_setCell_other _ _ _ _ (by intro e; injection e; omega)]; exact (B.cell (p := ⟨b, 2, none⟩) (Nat.lt_succ_self b)).trans h.lin

set_option maxRecDepth 100000 in
set_option maxHeartbeats 4000000 in
theorem add_b (b : Nat) (s : ByteArray) (p ln m : Nat) (out : List Tk) (k v : Int) (w : World) (SS : Scn w b s p ln out) (hm : p + m ≤ s.size) (hs : s.size ≤ 4611686018427387904) (ho : out.length ≤ 100000) :
    Calls Tryz.prog 87 #[.pointer (some ⟨b, 0, none⟩), .int .i64 k, .int .i64 (m : Int), .int .i64 v] w fun e w' => e = .returned (.tuple #[]) ∧ Scn w' b s (p + m) ln (out ++ [⟨k, ((strL s).drop p).take m, v, (ln : Nat)⟩]) ∧ Below b w w' := by
  obtain ⟨A, c, c3, own⟩ := SS.tok
  obtain ⟨R, hR⟩ : ∃ R, s.extract p s.size = R := ⟨_, rfl⟩
  have hRs : R.size = s.size - p := by rw [← hR, size_from]
  have hRm : m ≤ R.size := by omega
  have HT : Hid (strOfNums (((strL s).drop p).take m) = R.extract 0 m) := Lib.hid (by rw [← strL_from, hR, ← strL_upto, strOf_strL])
  have CR := Lib.hid (fun W c0 c1 => rest_q b s p W c0 c1 (by omega) hs)
  rw [hR] at CR
  have S0 := Lib.hid SS
  have OW := Lib.hid own
  have c0 := SS.txt
  have c1 := SS.pos
  have c2 := SS.lin
  have z3 := SS.fre 3
  have BB := Below.refl w.heap.size w
  have hb := SS.lt
  obtain ⟨N, hN⟩ : ∃ N, out.length = N := ⟨_, rfl⟩
  rw [hN] at c3 OW ho
  clear SS own hR hRs
  go_enter Tryz.func87, Tryz.ntmps87
  go_wp2_with fail
  refine wp_region_treeC (fun V => V.cell? ⟨b, 0, none⟩ = some (.string s) ∧ V.cell? ⟨b, 1, none⟩ = some (.int .i64 (p : Int)) ∧ V.cell? ⟨b, 2, none⟩ = some (.int .i64 (ln : Int))) (.read 0 (.read 1 (.read 2 (.read 3 (.read 5 (.read 6 (.read 8 (.read 10 (.read 11 (.read 12 (.read 13 (.read 14 (.fork2 4 (.fork1 7 (.read 9 (.read 15 (.fork1 16 (.fork1 17 (.read 18 (.read 19 (.fork1 20 .nil)))))))) 7 (.read 9 (.read 15 (.fork2 4 (.fork1 16 (.fork1 17 (.read 18 (.read 19 (.fork1 20 .nil))))) 16 (.fork1 4 (.fork1 17 (.read 18 (.read 19 (.fork1 20 .nil))))))))))))))))))))) (by kernel_rfl) (by kernel_rfl) (fun W hB => ⟨cell_below hB c0, cell_below hB c1, cell_below hB c2⟩) ?_
  intro V0 B
  replace z3 := frozen_below B c3 z3
  replace c0 := cell_below B c0; replace c1 := cell_below B c1; replace c2 := cell_below B c2; replace c3 := cell_below B c3
  replace OW := Lib.hid (OW.out.on B)
  replace hb := Nat.lt_of_lt_of_le hb B.size
  replace BB := bon BB B
  clear B
  refine tree_read rfl ?_
  refine wpQuiet_step (fun K hK => ?_)
  rw [if_pos (by rfl)]
  refine quiet_tval (.pointer (some ⟨b, 0, none⟩)) (fun W hW => by simp [execOp, go_sem]) ?_
  go_simp
  refine hK _ ?_
  clear hK K
  refine wpQuiet_nil ?_
  refine tree_read rfl ?_
  refine wpQuiet_step (fun K hK => ?_)
  rw [if_pos (by rfl)]
  refine quiet_tval (.pointer (some ⟨b, 0, none⟩)) (fun W hW => by simp [execOp, go_sem]) ?_
  go_simp
  refine hK _ ?_
  clear hK K
  refine wpQuiet_nil ?_
  refine tree_read rfl ?_
  refine wpQuiet_step (fun K hK => ?_)
  rw [if_pos (by rfl)]
  refine quiet_tval (.pointer (some ⟨b, 0, none⟩)) (fun W hW => by simp [execOp, go_sem]) ?_
  go_simp
  refine hK _ ?_
  clear hK K
  refine wpQuiet_nil ?_
  refine tree_read rfl ?_
  refine wpQuiet_step (fun K hK => ?_)
  rw [if_pos (by rfl)]
  refine quiet_tval (.pointer (some ⟨b, 3, none⟩)) (fun W hW => by simp [execOp, go_sem]) ?_
  go_simp
  refine hK _ ?_
  clear hK K
  refine wpQuiet_nil ?_
  refine tree_read rfl ?_
  refine wpQuiet_step (fun K hK => ?_)
  rw [if_pos (by rfl)]
  refine quiet_tval (.int .i64 k) (fun W hW => by simp [execOp, go_sem]) ?_
  go_simp
  refine hK _ ?_
  clear hK K
  refine wpQuiet_nil ?_
  refine tree_read rfl ?_
  refine wpQuiet_step (fun K hK => ?_)
  rw [if_pos (by rfl)]
  refine quiet_tval (.pointer (some ⟨b, 0, none⟩)) (fun W hW => by simp [execOp, go_sem]) ?_
  go_simp
  refine hK _ ?_
  clear hK K
  refine wpQuiet_nil ?_
  refine tree_read rfl ?_
  refine wpQuiet_step (fun K hK => ?_)
  rw [if_pos (by rfl)]
  refine quiet_tval (.int .i64 (m : Int)) (fun W hW => by simp [execOp, go_sem]) ?_
  go_simp
  refine hK _ ?_
  clear hK K
  refine wpQuiet_nil ?_
  refine tree_read rfl ?_
  refine wpQuiet_step (fun K hK => ?_)
  rw [if_pos (by rfl)]
  refine quiet_tval (.int .i64 v) (fun W hW => by simp [execOp, go_sem]) ?_
  go_simp
  refine hK _ ?_
  clear hK K
  refine wpQuiet_nil ?_
  refine tree_read rfl ?_
  refine wpQuiet_step (fun K hK => ?_)
  rw [if_pos (by rfl)]
  refine quiet_tval (.pointer (some ⟨b, 0, none⟩)) (fun W hW => by simp [execOp, go_sem]) ?_
  go_simp
  refine hK _ ?_
  clear hK K
  refine wpQuiet_nil ?_
  refine tree_read rfl ?_
  refine wpQuiet_step (fun K hK => ?_)
  rw [if_pos (by rfl)]
  refine quiet_tval (.pointer (some ⟨b, 0, none⟩)) (fun W hW => by simp [execOp, go_sem]) ?_
  go_simp
  refine hK _ ?_
  clear hK K
  refine wpQuiet_nil ?_
  refine tree_read rfl ?_
  refine wpQuiet_step (fun K hK => ?_)
  rw [if_pos (by rfl)]
  refine quiet_tval (.pointer (some ⟨b, 2, none⟩)) (fun W hW => by simp [execOp, go_sem]) ?_
  go_simp
  refine hK _ ?_
  clear hK K
  refine wpQuiet_nil ?_
  refine tree_read rfl ?_
  refine wpQuiet_step (fun K hK => ?_)
  rw [if_pos (by rfl)]
  refine quiet_tval (.int .i64 (ln : Int)) (fun W hW => by have h0 := hW.2.2; simp [execOp, go_sem, h0]) ?_
  go_simp
  refine hK _ ?_
  clear hK K
  refine wpQuiet_nil ?_
  refine tree_two rfl rfl ?_ ?_
  · go_wp2_with fail
    refine ⟨⟨c0, c1, c2⟩, ?_⟩
    refine tree_one rfl ?_
    go_wp2_with (go_at_call 106; (refine (CR.out _ c0 c1).mono ?_); rintro _ W1 ⟨rfl, B⟩; replace z3 := frozen_below B c3 z3; replace c0 := cell_below B c0; replace c1 := cell_below B c1; replace c2 := cell_below B c2; replace c3 := cell_below B c3; replace OW := Lib.hid (OW.out.on B); replace hb := Nat.lt_of_lt_of_le hb B.size; replace BB := bon BB B; clear B)
    refine ⟨⟨c0, c1, c2⟩, ?_⟩
    refine tree_read rfl ?_
    refine wpQuiet_step (fun K hK => ?_)
    rw [if_pos (by rfl)]
    refine quiet_tval (.string (R.extract 0 m)) (fun W hW => by simp [execOp, go_sem, hRm]) ?_
    go_simp
    refine hK _ ?_
    clear hK K
    refine wpQuiet_nil ?_
    refine tree_read rfl ?_
    refine wpQuiet_step (fun K hK => ?_)
    rw [if_pos (by rfl)]
    refine quiet_tval (.agg #[.int .i64 k, .string (R.extract 0 m), .int .i64 v, .int .i64 (ln : Int)]) (fun W hW => by simp [execOp, go_sem]) ?_
    go_simp
    refine hK _ ?_
    clear hK K
    refine wpQuiet_nil ?_
    refine tree_one rfl ?_
    go_wp2_with fail
    have BA := box_below W1 #[.int .i64 k, .string (R.extract 0 m), .int .i64 v, .int .i64 (ln : Int)] 60
    refine ⟨⟨cell_below BA c0, cell_below BA c1, cell_below BA c2⟩, ?_⟩
    refine tree_one rfl ?_
    go_wp2_with (refine wpList_app1E _ rfl _ _ _ rfl tokEnc elTok OW.out rfl ⟨k, ((strL s).drop p).take m, v, (ln : Nat)⟩ (by unfold tokC; rw [HT.out]) rfl (by simp only [maxLen]; omega) (by omega) ?_; intro A7 n7 c7 W7 own7 B7; have OW7 := Lib.hid own7; have BB7 := Lib.hid ((BB.mono (show b + 1 ≤ w.heap.size by have := S0.out.lt; omega)).trans B7); have H7 : Hid (n7 = N + 1) := Lib.hid (by have h9 := own7.len; rw [List.length_append, hN] at h9; exact h9.symm); have e0 := (B7.cell (p := ⟨b, 0, none⟩) (Nat.lt_succ_self b)).trans c0; have e1 := (B7.cell (p := ⟨b, 1, none⟩) (Nat.lt_succ_self b)).trans c1; have e2 := (B7.cell (p := ⟨b, 2, none⟩) (Nat.lt_succ_self b)).trans c2; have e3 := (B7.cell (p := ⟨b, 3, none⟩) (Nat.lt_succ_self b)).trans c3; have y3 := (B7.frozen (p := ⟨b, 3, none⟩) (Nat.lt_succ_self b)).trans z3; clear own7 B7 c0 c1 c2 c3 z3 BB OW)
    refine ⟨⟨e0, e1, e2⟩, ?_⟩
    refine tree_read rfl ?_
    refine wpQuiet_step (fun K hK => ?_)
    rw [if_pos (by rfl)]
    refine quiet_tval (.pointer (some ⟨b, 0, none⟩)) (fun W hW => by simp [execOp, go_sem]) ?_
    go_simp
    refine hK _ ?_
    clear hK K
    refine wpQuiet_nil ?_
    refine tree_read rfl ?_
    refine wpQuiet_step (fun K hK => ?_)
    rw [if_pos (by rfl)]
    refine quiet_tval (.pointer (some ⟨b, 3, none⟩)) (fun W hW => by simp [execOp, go_sem]) ?_
    go_simp
    refine hK _ ?_
    clear hK K
    refine wpQuiet_nil ?_
    refine tree_one rfl ?_
    go_wp2_with fail
    refine ⟨⟨by rw [World.cell?_setCell_other _ _ _ _ (by intro e; injection e; omega)]; exact e0, by rw [World.cell?_setCell_other _ _ _ _ (by intro e; injection e; omega)]; exact e1, by rw [World.cell?_setCell_other _ _ _ _ (by intro e; injection e; omega)]; exact e2⟩, ?_⟩
    refine tree_nil ?_
    obtain rfl : n7 = (out ++ [(⟨k, ((strL s).drop p).take m, v, ((ln : Nat) : Int)⟩ : Tk)]).length := OW7.out.len.symm
    have S7 := Lib.hid (S0.out.setTok OW7.out BB7.out ⟨_, e3⟩)
    have B8 := Lib.hid (bset (BB7.out.mono (Nat.le_succ b)) 3 (.slice A7 (out ++ [(⟨k, ((strL s).drop p).take m, v, ((ln : Nat) : Int)⟩ : Tk)]).length c7))
    obtain ⟨U, hU⟩ : ∃ U, W7.setCell ⟨b, 3, none⟩ (.slice A7 (out ++ [(⟨k, ((strL s).drop p).take m, v, ((ln : Nat) : Int)⟩ : Tk)]).length c7) = U := ⟨_, rfl⟩
    rw [hU] at S7 B8 ⊢
    clear hU e0 e1 e2 e3 y3 OW7 BB7 H7
    have c1 := S7.out.pos
    have z1 := S7.out.fre 1
    go_wp2_with fail
    refine bodyPost_end (results_none rfl _ _ _) rfl ?_
    exact ⟨rfl, S7.out.setPos (p + m), bset B8.out _ _⟩
  · go_wp2_with (go_at_call 106; (refine (CR.out _ c0 c1).mono ?_); rintro _ W1 ⟨rfl, B⟩; replace z3 := frozen_below B c3 z3; replace c0 := cell_below B c0; replace c1 := cell_below B c1; replace c2 := cell_below B c2; replace c3 := cell_below B c3; replace OW := Lib.hid (OW.out.on B); replace hb := Nat.lt_of_lt_of_le hb B.size; replace BB := bon BB B; clear B)
    refine ⟨⟨c0, c1, c2⟩, ?_⟩
    refine tree_read rfl ?_
    refine wpQuiet_step (fun K hK => ?_)
    rw [if_pos (by rfl)]
    refine quiet_tval (.string (R.extract 0 m)) (fun W hW => by simp [execOp, go_sem, hRm]) ?_
    go_simp
    refine hK _ ?_
    clear hK K
    refine wpQuiet_nil ?_
    refine tree_read rfl ?_
    refine wpQuiet_step (fun K hK => ?_)
    rw [if_pos (by rfl)]
    refine quiet_tval (.agg #[.int .i64 k, .string (R.extract 0 m), .int .i64 v, .int .i64 (ln : Int)]) (fun W hW => by simp [execOp, go_sem]) ?_
    go_simp
    refine hK _ ?_
    clear hK K
    refine wpQuiet_nil ?_
    refine tree_two rfl rfl ?_ ?_
    · go_wp2_with fail
      refine ⟨⟨c0, c1, c2⟩, ?_⟩
      refine tree_one rfl ?_
      go_wp2_with fail
      have BA := box_below W1 #[.int .i64 k, .string (R.extract 0 m), .int .i64 v, .int .i64 (ln : Int)] 60
      refine ⟨⟨cell_below BA c0, cell_below BA c1, cell_below BA c2⟩, ?_⟩
      refine tree_one rfl ?_
      go_wp2_with (refine wpList_app1E _ rfl _ _ _ rfl tokEnc elTok OW.out rfl ⟨k, ((strL s).drop p).take m, v, (ln : Nat)⟩ (by unfold tokC; rw [HT.out]) rfl (by simp only [maxLen]; omega) (by omega) ?_; intro A7 n7 c7 W7 own7 B7; have OW7 := Lib.hid own7; have BB7 := Lib.hid ((BB.mono (show b + 1 ≤ w.heap.size by have := S0.out.lt; omega)).trans B7); have H7 : Hid (n7 = N + 1) := Lib.hid (by have h9 := own7.len; rw [List.length_append, hN] at h9; exact h9.symm); have e0 := (B7.cell (p := ⟨b, 0, none⟩) (Nat.lt_succ_self b)).trans c0; have e1 := (B7.cell (p := ⟨b, 1, none⟩) (Nat.lt_succ_self b)).trans c1; have e2 := (B7.cell (p := ⟨b, 2, none⟩) (Nat.lt_succ_self b)).trans c2; have e3 := (B7.cell (p := ⟨b, 3, none⟩) (Nat.lt_succ_self b)).trans c3; have y3 := (B7.frozen (p := ⟨b, 3, none⟩) (Nat.lt_succ_self b)).trans z3; clear own7 B7 c0 c1 c2 c3 z3 BB OW)
      refine ⟨⟨e0, e1, e2⟩, ?_⟩
      refine tree_read rfl ?_
      refine wpQuiet_step (fun K hK => ?_)
      rw [if_pos (by rfl)]
      refine quiet_tval (.pointer (some ⟨b, 0, none⟩)) (fun W hW => by simp [execOp, go_sem]) ?_
      go_simp
      refine hK _ ?_
      clear hK K
      refine wpQuiet_nil ?_
      refine tree_read rfl ?_
      refine wpQuiet_step (fun K hK => ?_)
      rw [if_pos (by rfl)]
      refine quiet_tval (.pointer (some ⟨b, 3, none⟩)) (fun W hW => by simp [execOp, go_sem]) ?_
      go_simp
      refine hK _ ?_
      clear hK K
      refine wpQuiet_nil ?_
      refine tree_one rfl ?_
      go_wp2_with fail
      refine ⟨⟨by rw [World.cell?_setCell_other _ _ _ _ (by intro e; injection e; omega)]; exact e0, by rw [World.cell?_setCell_other _ _ _ _ (by intro e; injection e; omega)]; exact e1, by rw [World.cell?_setCell_other _ _ _ _ (by intro e; injection e; omega)]; exact e2⟩, ?_⟩
      refine tree_nil ?_
      obtain rfl : n7 = (out ++ [(⟨k, ((strL s).drop p).take m, v, ((ln : Nat) : Int)⟩ : Tk)]).length := OW7.out.len.symm
      have S7 := Lib.hid (S0.out.setTok OW7.out BB7.out ⟨_, e3⟩)
      have B8 := Lib.hid (bset (BB7.out.mono (Nat.le_succ b)) 3 (.slice A7 (out ++ [(⟨k, ((strL s).drop p).take m, v, ((ln : Nat) : Int)⟩ : Tk)]).length c7))
      obtain ⟨U, hU⟩ : ∃ U, W7.setCell ⟨b, 3, none⟩ (.slice A7 (out ++ [(⟨k, ((strL s).drop p).take m, v, ((ln : Nat) : Int)⟩ : Tk)]).length c7) = U := ⟨_, rfl⟩
      rw [hU] at S7 B8 ⊢
      clear hU e0 e1 e2 e3 y3 OW7 BB7 H7
      have c1 := S7.out.pos
      have z1 := S7.out.fre 1
      go_wp2_with fail
      refine bodyPost_end (results_none rfl _ _ _) rfl ?_
      exact ⟨rfl, S7.out.setPos (p + m), bset B8.out _ _⟩
    · go_wp2_with fail
      have BA := box_below W1 #[.int .i64 k, .string (R.extract 0 m), .int .i64 v, .int .i64 (ln : Int)] 60
      refine ⟨⟨cell_below BA c0, cell_below BA c1, cell_below BA c2⟩, ?_⟩
      refine tree_one rfl ?_
      have c3A := cell_below BA c3
      go_wp2_with fail
      refine ⟨⟨cell_below BA c0, cell_below BA c1, cell_below BA c2⟩, ?_⟩
      refine tree_one rfl ?_
      go_wp2_with (refine wpList_app1E _ rfl _ _ _ rfl tokEnc elTok OW.out rfl ⟨k, ((strL s).drop p).take m, v, (ln : Nat)⟩ (by unfold tokC; rw [HT.out]) rfl (by simp only [maxLen]; omega) (by omega) ?_; intro A7 n7 c7 W7 own7 B7; have OW7 := Lib.hid own7; have BB7 := Lib.hid ((BB.mono (show b + 1 ≤ w.heap.size by have := S0.out.lt; omega)).trans B7); have H7 : Hid (n7 = N + 1) := Lib.hid (by have h9 := own7.len; rw [List.length_append, hN] at h9; exact h9.symm); have e0 := (B7.cell (p := ⟨b, 0, none⟩) (Nat.lt_succ_self b)).trans c0; have e1 := (B7.cell (p := ⟨b, 1, none⟩) (Nat.lt_succ_self b)).trans c1; have e2 := (B7.cell (p := ⟨b, 2, none⟩) (Nat.lt_succ_self b)).trans c2; have e3 := (B7.cell (p := ⟨b, 3, none⟩) (Nat.lt_succ_self b)).trans c3; have y3 := (B7.frozen (p := ⟨b, 3, none⟩) (Nat.lt_succ_self b)).trans z3; clear own7 B7 c0 c1 c2 c3 z3 BB OW)
      refine ⟨⟨e0, e1, e2⟩, ?_⟩
      refine tree_read rfl ?_
      refine wpQuiet_step (fun K hK => ?_)
      rw [if_pos (by rfl)]
      refine quiet_tval (.pointer (some ⟨b, 0, none⟩)) (fun W hW => by simp [execOp, go_sem]) ?_
      go_simp
      refine hK _ ?_
      clear hK K
      refine wpQuiet_nil ?_
      refine tree_read rfl ?_
      refine wpQuiet_step (fun K hK => ?_)
      rw [if_pos (by rfl)]
      refine quiet_tval (.pointer (some ⟨b, 3, none⟩)) (fun W hW => by simp [execOp, go_sem]) ?_
      go_simp
      refine hK _ ?_
      clear hK K
      refine wpQuiet_nil ?_
      refine tree_one rfl ?_
      go_wp2_with fail
      refine ⟨⟨by rw [World.cell?_setCell_other _ _ _ _ (by intro e; injection e; omega)]; exact e0, by rw [World.cell?_setCell_other _ _ _ _ (by intro e; injection e; omega)]; exact e1, by rw [World.cell?_setCell_other _ _ _ _ (by intro e; injection e; omega)]; exact e2⟩, ?_⟩
      refine tree_nil ?_
      obtain rfl : n7 = (out ++ [(⟨k, ((strL s).drop p).take m, v, ((ln : Nat) : Int)⟩ : Tk)]).length := OW7.out.len.symm
      have S7 := Lib.hid (S0.out.setTok OW7.out BB7.out ⟨_, e3⟩)
      have B8 := Lib.hid (bset (BB7.out.mono (Nat.le_succ b)) 3 (.slice A7 (out ++ [(⟨k, ((strL s).drop p).take m, v, ((ln : Nat) : Int)⟩ : Tk)]).length c7))
      obtain ⟨U, hU⟩ : ∃ U, W7.setCell ⟨b, 3, none⟩ (.slice A7 (out ++ [(⟨k, ((strL s).drop p).take m, v, ((ln : Nat) : Int)⟩ : Tk)]).length c7) = U := ⟨_, rfl⟩
      rw [hU] at S7 B8 ⊢
      clear hU e0 e1 e2 e3 y3 OW7 BB7 H7
      have c1 := S7.out.pos
      have z1 := S7.out.fre 1
      go_wp2_with fail
      refine bodyPost_end (results_none rfl _ _ _) rfl ?_
      exact ⟨rfl, S7.out.setPos (p + m), bset B8.out _ _⟩

end Go.Proofs.YtjpkcgepdfpbnaaGreatDoor
