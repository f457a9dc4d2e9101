/- between of package sampler. -/
import Derived.Test.YtoipmldbjciinaaS2
import Derived.Test.YtoipmldbjciinaaTreeC
namespace Go.Proofs.Ytoipmldbjciinaa
open Go.RowKit Go.Sort Go.ChangeShapes Go.WideShapes
set_option linter.unusedVariables false

theorem al1 {α : Type} {x0 : α} {p : α → Prop} (h0 : p x0) : ∀ e ∈ [x0], p e := by
  intro e he
  simp only [List.mem_cons, List.not_mem_nil, or_false] at he
  subst he
  exact h0

theorem al2 {α : Type} {x0 x1 : α} {p : α → Prop} (h0 : p x0) (h1 : p x1) : ∀ e ∈ [x0, x1], p e := by
  intro e he
  simp only [List.mem_cons, List.not_mem_nil, or_false] at he
  rcases he with rfl | rfl
  · exact h0
  · exact h1

theorem al3 {α : Type} {x0 x1 x2 : α} {p : α → Prop} (h0 : p x0) (h1 : p x1) (h2 : p x2) : ∀ e ∈ [x0, x1, x2], p e := by
  intro e he
  simp only [List.mem_cons, List.not_mem_nil, or_false] at he
  rcases he with rfl | rfl | rfl
  · exact h0
  · exact h1
  · exact h2

section
variable {P : Program} {ops : Array Oper} {C : World → Prop}

/-- A texture (one cell, a slice) loaded in a region that draws its order. -/
theorem quiet_txload {K : Act → Prop} {op : Oper} {a : Act} {b n c : Nat} {A : Option Addr} (ty : TypeId) (x : Operand) (ho : op.op = .load ty x) (T : RowT P ty 1)
    (k : ∀ W, C W → W.cell? ⟨b, 0, none⟩ = some (.slice A n c)) (hx : a.eval x = .pointer (some ⟨b, 0, none⟩)) (hk : K (a.put op.dst (.agg #[.slice A n c]))) : op.quiet P a C K :=
  ⟨_, fun W hW => by
    obtain ⟨⟨d, h1, h2⟩, h3⟩ := T
    have hr : W.rangeAt b 0 [.slice A n c] := by
      intro j v hv
      match j, hv with
      | 0, hv => simp at hv; subst hv; exact k W hW
    unfold Oper.quietAt execOp
    simp only [ho, hx, Instr.loadAt, Instr.sureAddr, Sem.run_bind, Sem.run_pure, Result.andThen_ok, run_loadVar_mid W b 0 ty _ d hr h1 h2 h3]
    exact ⟨rfl, rfl⟩, hk⟩
end

theorem texT : RowT Try.prog 41 1 := ⟨⟨_, Try.underlying41, rfl⟩, by kernel_rfl⟩

/-- The states of a region. -/
def sbDag : Dag := ⟨[[], [5], [16], [5, 12], [5, 16], [5, 12, 14], [5, 12, 16], [5, 12, 14, 15], [5, 12, 14, 16], [5, 12, 14, 15, 16], [5, 12, 14, 15, 16, 17]], [[(5, 1), (16, 2)], [(12, 3), (16, 4)], [(5, 4)], [(14, 5), (16, 6)], [(12, 6)], [(15, 7), (16, 8)], [(14, 8)], [(16, 9)], [(15, 9)], [(17, 10)], []], [6, 5, 5, 4, 4, 3, 3, 2, 2, 1, 0]⟩

def sbR (a0 : Act) (A : Option Addr) (n c : Nat) (s : Nat → Int) (x y lv aa fx : Int) (va vb vu : Nat → Int) : Act :=
  ((((((((((((a0.put (some 19) (.agg #[.slice A n c])).put (some 20) (.agg (smps s))).put (some 21) (.int .i64 x)).put (some 22) (.int .i64 y)).put (some 23) (.int .i64 lv)).put (some 25) (.agg #[.slice A n c])).put (some 26) (.agg (smps s))).put (some 27) (.int .i64 x)).put (some 28) (.int .i64 (x + 1))).put (some 29) (.int .i64 y)).put (some 30) (.int .i64 lv)).put (some 32) (.int .i64 aa))

@[reducible] def sbSt (w0 : World) (A : Option Addr) (n c : Nat) (s : Nat → Int) (x y lv aa fx : Int) (va vb vu : Nat → Int) (k : Nat) (a0 a' : Act) (W : World) : Prop := match k with
  | 0 => ∃ b13 : Nat, a' = (sbR a0 A n c s x y lv aa fx va vb vu) ∧ Below w0.heap.size w0 W
  | 1 => ∃ b13 : Nat, a' = ((sbR a0 A n c s x y lv aa fx va vb vu).put (some 24) (.agg #[.int .i64 (va 0), .int .i64 (va 1), .int .i64 (va 2), .int .i64 (va 3)])) ∧ Below w0.heap.size w0 W
  | 2 => ∃ b13 : Nat, a' = ((sbR a0 A n c s x y lv aa fx va vb vu).put (some 13) (.pointer (some ⟨b13, 0, none⟩))) ∧ Below w0.heap.size w0 W ∧ VBox W b13 0 0 0 0 ∧ w0.heap.size ≤ b13
  | 3 => ∃ b13 : Nat, a' = (((sbR a0 A n c s x y lv aa fx va vb vu).put (some 24) (.agg #[.int .i64 (va 0), .int .i64 (va 1), .int .i64 (va 2), .int .i64 (va 3)])).put (some 31) (.agg #[.int .i64 (vb 0), .int .i64 (vb 1), .int .i64 (vb 2), .int .i64 (vb 3)])) ∧ Below w0.heap.size w0 W
  | 4 => ∃ b13 : Nat, a' = (((sbR a0 A n c s x y lv aa fx va vb vu).put (some 24) (.agg #[.int .i64 (va 0), .int .i64 (va 1), .int .i64 (va 2), .int .i64 (va 3)])).put (some 13) (.pointer (some ⟨b13, 0, none⟩))) ∧ Below w0.heap.size w0 W ∧ VBox W b13 0 0 0 0 ∧ w0.heap.size ≤ b13
  | 5 => ∃ b13 : Nat, a' = ((((sbR a0 A n c s x y lv aa fx va vb vu).put (some 24) (.agg #[.int .i64 (va 0), .int .i64 (va 1), .int .i64 (va 2), .int .i64 (va 3)])).put (some 31) (.agg #[.int .i64 (vb 0), .int .i64 (vb 1), .int .i64 (vb 2), .int .i64 (vb 3)])).put (some 33) (.int .i64 fx)) ∧ Below w0.heap.size w0 W
  | 6 => ∃ b13 : Nat, a' = ((((sbR a0 A n c s x y lv aa fx va vb vu).put (some 24) (.agg #[.int .i64 (va 0), .int .i64 (va 1), .int .i64 (va 2), .int .i64 (va 3)])).put (some 31) (.agg #[.int .i64 (vb 0), .int .i64 (vb 1), .int .i64 (vb 2), .int .i64 (vb 3)])).put (some 13) (.pointer (some ⟨b13, 0, none⟩))) ∧ Below w0.heap.size w0 W ∧ VBox W b13 0 0 0 0 ∧ w0.heap.size ≤ b13
  | 7 => ∃ b13 : Nat, a' = (((((sbR a0 A n c s x y lv aa fx va vb vu).put (some 24) (.agg #[.int .i64 (va 0), .int .i64 (va 1), .int .i64 (va 2), .int .i64 (va 3)])).put (some 31) (.agg #[.int .i64 (vb 0), .int .i64 (vb 1), .int .i64 (vb 2), .int .i64 (vb 3)])).put (some 33) (.int .i64 fx)).put (some 34) (.agg #[.int .i64 (vu 0), .int .i64 (vu 1), .int .i64 (vu 2), .int .i64 (vu 3)])) ∧ Below w0.heap.size w0 W
  | 8 => ∃ b13 : Nat, a' = (((((sbR a0 A n c s x y lv aa fx va vb vu).put (some 24) (.agg #[.int .i64 (va 0), .int .i64 (va 1), .int .i64 (va 2), .int .i64 (va 3)])).put (some 31) (.agg #[.int .i64 (vb 0), .int .i64 (vb 1), .int .i64 (vb 2), .int .i64 (vb 3)])).put (some 33) (.int .i64 fx)).put (some 13) (.pointer (some ⟨b13, 0, none⟩))) ∧ Below w0.heap.size w0 W ∧ VBox W b13 0 0 0 0 ∧ w0.heap.size ≤ b13
  | 9 => ∃ b13 : Nat, a' = ((((((sbR a0 A n c s x y lv aa fx va vb vu).put (some 24) (.agg #[.int .i64 (va 0), .int .i64 (va 1), .int .i64 (va 2), .int .i64 (va 3)])).put (some 31) (.agg #[.int .i64 (vb 0), .int .i64 (vb 1), .int .i64 (vb 2), .int .i64 (vb 3)])).put (some 33) (.int .i64 fx)).put (some 34) (.agg #[.int .i64 (vu 0), .int .i64 (vu 1), .int .i64 (vu 2), .int .i64 (vu 3)])).put (some 13) (.pointer (some ⟨b13, 0, none⟩))) ∧ Below w0.heap.size w0 W ∧ VBox W b13 0 0 0 0 ∧ w0.heap.size ≤ b13
  | 10 => ∃ b13 : Nat, a' = ((((((sbR a0 A n c s x y lv aa fx va vb vu).put (some 24) (.agg #[.int .i64 (va 0), .int .i64 (va 1), .int .i64 (va 2), .int .i64 (va 3)])).put (some 31) (.agg #[.int .i64 (vb 0), .int .i64 (vb 1), .int .i64 (vb 2), .int .i64 (vb 3)])).put (some 33) (.int .i64 fx)).put (some 34) (.agg #[.int .i64 (vu 0), .int .i64 (vu 1), .int .i64 (vu 2), .int .i64 (vu 3)])).put (some 13) (.pointer (some ⟨b13, 0, none⟩))) ∧ Below w0.heap.size w0 W ∧ VBox W b13 (vu 0) (vu 1) (vu 2) (vu 3) ∧ w0.heap.size ≤ b13
  | _ => False

/-- The states of a region. -/
def scDag : Dag := ⟨[[], [6], [18], [6, 14], [6, 18], [6, 14, 16], [6, 14, 18], [6, 14, 16, 17], [6, 14, 16, 18], [6, 14, 16, 17, 18], [6, 14, 16, 17, 18, 19]], [[(6, 1), (18, 2)], [(14, 3), (18, 4)], [(6, 4)], [(16, 5), (18, 6)], [(14, 6)], [(17, 7), (18, 8)], [(16, 8)], [(18, 9)], [(17, 9)], [(19, 10)], []], [6, 5, 5, 4, 4, 3, 3, 2, 2, 1, 0]⟩

def scR (a0 : Act) (A : Option Addr) (n c : Nat) (s : Nat → Int) (x y lv aa fx : Int) (va vb vu : Nat → Int) : Act :=
  ((((((((((((((a0.put (some 35) (.agg #[.slice A n c])).put (some 36) (.agg (smps s))).put (some 37) (.int .i64 x)).put (some 38) (.int .i64 y)).put (some 39) (.int .i64 (y + 1))).put (some 40) (.int .i64 lv)).put (some 42) (.agg #[.slice A n c])).put (some 43) (.agg (smps s))).put (some 44) (.int .i64 x)).put (some 45) (.int .i64 (x + 1))).put (some 46) (.int .i64 y)).put (some 47) (.int .i64 (y + 1))).put (some 48) (.int .i64 lv)).put (some 50) (.int .i64 aa))

@[reducible] def scSt (w0 : World) (A : Option Addr) (n c : Nat) (s : Nat → Int) (x y lv aa fx : Int) (va vb vu : Nat → Int) (k : Nat) (a0 a' : Act) (W : World) : Prop := match k with
  | 0 => ∃ b14 : Nat, a' = (scR a0 A n c s x y lv aa fx va vb vu) ∧ Below w0.heap.size w0 W
  | 1 => ∃ b14 : Nat, a' = ((scR a0 A n c s x y lv aa fx va vb vu).put (some 41) (.agg #[.int .i64 (va 0), .int .i64 (va 1), .int .i64 (va 2), .int .i64 (va 3)])) ∧ Below w0.heap.size w0 W
  | 2 => ∃ b14 : Nat, a' = ((scR a0 A n c s x y lv aa fx va vb vu).put (some 14) (.pointer (some ⟨b14, 0, none⟩))) ∧ Below w0.heap.size w0 W ∧ VBox W b14 0 0 0 0 ∧ w0.heap.size ≤ b14
  | 3 => ∃ b14 : Nat, a' = (((scR a0 A n c s x y lv aa fx va vb vu).put (some 41) (.agg #[.int .i64 (va 0), .int .i64 (va 1), .int .i64 (va 2), .int .i64 (va 3)])).put (some 49) (.agg #[.int .i64 (vb 0), .int .i64 (vb 1), .int .i64 (vb 2), .int .i64 (vb 3)])) ∧ Below w0.heap.size w0 W
  | 4 => ∃ b14 : Nat, a' = (((scR a0 A n c s x y lv aa fx va vb vu).put (some 41) (.agg #[.int .i64 (va 0), .int .i64 (va 1), .int .i64 (va 2), .int .i64 (va 3)])).put (some 14) (.pointer (some ⟨b14, 0, none⟩))) ∧ Below w0.heap.size w0 W ∧ VBox W b14 0 0 0 0 ∧ w0.heap.size ≤ b14
  | 5 => ∃ b14 : Nat, a' = ((((scR a0 A n c s x y lv aa fx va vb vu).put (some 41) (.agg #[.int .i64 (va 0), .int .i64 (va 1), .int .i64 (va 2), .int .i64 (va 3)])).put (some 49) (.agg #[.int .i64 (vb 0), .int .i64 (vb 1), .int .i64 (vb 2), .int .i64 (vb 3)])).put (some 51) (.int .i64 fx)) ∧ Below w0.heap.size w0 W
  | 6 => ∃ b14 : Nat, a' = ((((scR a0 A n c s x y lv aa fx va vb vu).put (some 41) (.agg #[.int .i64 (va 0), .int .i64 (va 1), .int .i64 (va 2), .int .i64 (va 3)])).put (some 49) (.agg #[.int .i64 (vb 0), .int .i64 (vb 1), .int .i64 (vb 2), .int .i64 (vb 3)])).put (some 14) (.pointer (some ⟨b14, 0, none⟩))) ∧ Below w0.heap.size w0 W ∧ VBox W b14 0 0 0 0 ∧ w0.heap.size ≤ b14
  | 7 => ∃ b14 : Nat, a' = (((((scR a0 A n c s x y lv aa fx va vb vu).put (some 41) (.agg #[.int .i64 (va 0), .int .i64 (va 1), .int .i64 (va 2), .int .i64 (va 3)])).put (some 49) (.agg #[.int .i64 (vb 0), .int .i64 (vb 1), .int .i64 (vb 2), .int .i64 (vb 3)])).put (some 51) (.int .i64 fx)).put (some 52) (.agg #[.int .i64 (vu 0), .int .i64 (vu 1), .int .i64 (vu 2), .int .i64 (vu 3)])) ∧ Below w0.heap.size w0 W
  | 8 => ∃ b14 : Nat, a' = (((((scR a0 A n c s x y lv aa fx va vb vu).put (some 41) (.agg #[.int .i64 (va 0), .int .i64 (va 1), .int .i64 (va 2), .int .i64 (va 3)])).put (some 49) (.agg #[.int .i64 (vb 0), .int .i64 (vb 1), .int .i64 (vb 2), .int .i64 (vb 3)])).put (some 51) (.int .i64 fx)).put (some 14) (.pointer (some ⟨b14, 0, none⟩))) ∧ Below w0.heap.size w0 W ∧ VBox W b14 0 0 0 0 ∧ w0.heap.size ≤ b14
  | 9 => ∃ b14 : Nat, a' = ((((((scR a0 A n c s x y lv aa fx va vb vu).put (some 41) (.agg #[.int .i64 (va 0), .int .i64 (va 1), .int .i64 (va 2), .int .i64 (va 3)])).put (some 49) (.agg #[.int .i64 (vb 0), .int .i64 (vb 1), .int .i64 (vb 2), .int .i64 (vb 3)])).put (some 51) (.int .i64 fx)).put (some 52) (.agg #[.int .i64 (vu 0), .int .i64 (vu 1), .int .i64 (vu 2), .int .i64 (vu 3)])).put (some 14) (.pointer (some ⟨b14, 0, none⟩))) ∧ Below w0.heap.size w0 W ∧ VBox W b14 0 0 0 0 ∧ w0.heap.size ≤ b14
  | 10 => ∃ b14 : Nat, a' = ((((((scR a0 A n c s x y lv aa fx va vb vu).put (some 41) (.agg #[.int .i64 (va 0), .int .i64 (va 1), .int .i64 (va 2), .int .i64 (va 3)])).put (some 49) (.agg #[.int .i64 (vb 0), .int .i64 (vb 1), .int .i64 (vb 2), .int .i64 (vb 3)])).put (some 51) (.int .i64 fx)).put (some 52) (.agg #[.int .i64 (vu 0), .int .i64 (vu 1), .int .i64 (vu 2), .int .i64 (vu 3)])).put (some 14) (.pointer (some ⟨b14, 0, none⟩))) ∧ Below w0.heap.size w0 W ∧ VBox W b14 (vu 0) (vu 1) (vu 2) (vu 3) ∧ w0.heap.size ≤ b14
  | _ => False

set_option maxRecDepth 100000 in
set_option maxHeartbeats 20000000 in
theorem sbtw_b (A : Option Addr) (n c : Nat) (ts : List Tx) (s : Nat → Int) (aa bb : Int) (q : Nat) (w : World) (R : RdI w w.heap.size A n ts) (hq : q < n) (hq2 : q ≤ 9223372036854775807) (ha : -1099511627776 ≤ aa ∧ aa ≤ 1099511627776) (hb : -1099511627776 ≤ bb ∧ bb ≤ 1099511627776) :
    Calls Try.prog 39 #[.agg #[.slice A n c], .agg (smps s), .int .i64 aa, .int .i64 bb, .int .i64 q] w (GivesV w (btw ts s aa bb q)) := by
  obtain ⟨BB, a0, S0, D⟩ := args_tsv w A n c s 41 27 25
  have J1 := R.on BB
  obtain ⟨x, hx⟩ : ∃ x, aa / 65536 = x := ⟨_, rfl⟩
  obtain ⟨y, hy⟩ : ∃ y, bb / 65536 = y := ⟨_, rfl⟩
  obtain ⟨fx, hfx⟩ : ∃ x, aa % 65536 = x := ⟨_, rfl⟩
  obtain ⟨fy, hfy⟩ : ∃ x, bb % 65536 = x := ⟨_, rfl⟩
  have gx : IntKind.i64.wrap (x + 1) = x + 1 := IntWalk.i64_in _ (by omega)
  have gy : IntKind.i64.wrap (y + 1) = y + 1 := IntWalk.i64_in _ (by omega)
  have cwx := fun W => whole_q aa W
  have cwy := fun W => whole_q bb W
  have cf := fun W => of_q (fraction_q aa W)
  have cfy := fun W => of_q (fraction_q bb W)
  rw [hx] at cwx
  rw [hy] at cwy
  rw [hfx] at cf
  rw [hfy] at cfy
  have hr : btw ts s aa bb q = fun i => lerpv (lerpv (col ts s x y q i) (col ts s (x + 1) y q i) fx) (lerpv (col ts s x (y + 1) q i) (col ts s (x + 1) (y + 1) q i) fx) fy := by
    funext i
    unfold btw
    rw [hx, hy, hfx, hfy]
  rw [hr]
  have ca := fun W R => scol_b A n c ts s x y q W R hq hq2
  have cb := fun W R => scol_b A n c ts s (x + 1) y q W R hq hq2
  have cc := fun W R => scol_b A n c ts s x (y + 1) q W R hq hq2
  have cd := fun W R => scol_b A n c ts s (x + 1) (y + 1) q W R hq hq2
  unfold GivesV at ca cb cc cd ⊢
  obtain ⟨va, hva⟩ : ∃ v, col ts s x y (q : Int) = v := ⟨_, rfl⟩
  obtain ⟨vb, hvb⟩ : ∃ v, col ts s (x + 1) y (q : Int) = v := ⟨_, rfl⟩
  obtain ⟨vc, hvc⟩ : ∃ v, col ts s x (y + 1) (q : Int) = v := ⟨_, rfl⟩
  obtain ⟨vd, hvd⟩ : ∃ v, col ts s (x + 1) (y + 1) (q : Int) = v := ⟨_, rfl⟩
  simp only [hva, hvb, hvc, hvd] at ca cb cc cd ⊢
  have cu := fun W => lerp4 (va 0) (va 1) (va 2) (va 3) (vb 0) (vb 1) (vb 2) (vb 3) fx W
  have cl := fun W => lerp4 (vc 0) (vc 1) (vc 2) (vc 3) (vd 0) (vd 1) (vd 2) (vd 3) fx W
  obtain ⟨vu, hvu⟩ : ∃ v : Nat → Int, (fun i => lerpv (va i) (vb i) fx) = v := ⟨_, rfl⟩
  obtain ⟨vl, hvl⟩ : ∃ v : Nat → Int, (fun i => lerpv (vc i) (vd i) fx) = v := ⟨_, rfl⟩
  have hvu2 : ∀ i, lerpv (va i) (vb i) fx = vu i := fun i => congrFun hvu i
  have hvl2 : ∀ i, lerpv (vc i) (vd i) fx = vl i := fun i => congrFun hvl i
  simp only [hvu2] at cu ⊢
  simp only [hvl2] at cl ⊢
  have ce := fun W => lerp4 (vu 0) (vu 1) (vu 2) (vu 3) (vl 0) (vl 1) (vl 2) (vl 3) fy W
  obtain ⟨ve, hve⟩ : ∃ v : Nat → Int, (fun i => lerpv (vu i) (vl i) fy) = v := ⟨_, rfl⟩
  have hve2 : ∀ i, lerpv (vu i) (vl i) fy = ve i := fun i => congrFun hve i
  simp only [hve2] at ce ⊢
  obtain ⟨lv, hk⟩ : ∃ k : Int, (q : Int) = k := ⟨_, rfl⟩
  rw [hk] at ca cb cc cd ⊢
  have CWX := Lib.hid cwx
  have CWY := Lib.hid cwy
  have CF := Lib.hid cf
  have CFY := Lib.hid cfy
  have CA := Lib.hid ca
  have CB := Lib.hid cb
  have CC := Lib.hid cc
  have CD := Lib.hid cd
  have CU := Lib.hid cu
  have CL := Lib.hid cl
  have CE := Lib.hid ce
  clear cwx cwy cf cfy ca cb cc cd cu cl ce hva hvb hvc hvd hvu hvl hve hvu2 hvl2 hve2 hr hx hy hfx hfy hk hq hq2 ha hb R
  go_enter Try.func39, Try.ntmps39
  go_wp2_with (first
    | (go_at_call 33; (with_reducible refine (CWX.out _).mono ?_); rintro _ _ ⟨rfl, rfl⟩)
    | (go_at_call 33; (with_reducible refine (CWY.out _).mono ?_); rintro _ _ ⟨rfl, rfl⟩))
  refine letter (S := fun W => Below w.heap.size w W ∧ W.cell? ⟨w.heap.size, 0, none⟩ = some (.slice A n c) ∧ (∀ i, i < 12 → W.cell? ⟨w.heap.size + 1, i, none⟩ = some (.int .i64 (s i))) ∧ VBox W (w.heap.size + 2) 0 0 0 0 ∧ RdI W W.heap.size A n ts) ?_ ⟨BB, a0, S0, D, J1⟩
  clear BB a0 S0 D J1
  rintro W0 ⟨BB, a0, S0, D, JX⟩
  refine wp_region_dag (sbSt W0 A n c s x y lv aa fx va vb vu) (fun U => Below W0.heap.size W0 U) [0, 1, 2, 3, 4, 6, 7, 8, 9, 10, 11, 13] sbDag 10 (by kernel_rfl) (by kernel_rfl) (fun U hB => hB) ?_ ?_ ?_
  · intro V0 F
    refine rd_step rfl ?_
    refine wpQuiet_step (fun K hK => ?_)
    rw [if_pos (by rfl)]
    refine quiet_txload _ _ rfl texT (fun W hW => cell_below hW a0) rfl ?_
    go_simp
    refine hK _ ?_
    clear hK K
    refine wpQuiet_nil ?_
    refine rd_step rfl ?_
    refine wpQuiet_step (fun K hK => ?_)
    rw [if_pos (by rfl)]
    refine quiet_sload _ _ rfl smpT (fun W hW => smp_below hW S0) rfl ?_
    go_simp
    refine hK _ ?_
    clear hK K
    refine wpQuiet_nil ?_
    refine rd_step rfl ?_
    refine wpQuiet_step (fun K hK => ?_)
    rw [if_pos (by rfl)]
    first | refine quiet_move _ rfl ?_ | refine quiet_assign _ rfl ?_
    go_simp
    refine hK _ ?_
    clear hK K
    refine wpQuiet_nil ?_
    refine rd_step rfl ?_
    refine wpQuiet_step (fun K hK => ?_)
    rw [if_pos (by rfl)]
    first | refine quiet_move _ rfl ?_ | refine quiet_assign _ rfl ?_
    go_simp
    refine hK _ ?_
    clear hK K
    refine wpQuiet_nil ?_
    refine rd_step rfl ?_
    refine wpQuiet_step (fun K hK => ?_)
    rw [if_pos (by rfl)]
    first | refine quiet_move _ rfl ?_ | refine quiet_assign _ rfl ?_
    go_simp
    refine hK _ ?_
    clear hK K
    refine wpQuiet_nil ?_
    refine rd_step rfl ?_
    refine wpQuiet_step (fun K hK => ?_)
    rw [if_pos (by rfl)]
    refine quiet_txload _ _ rfl texT (fun W hW => cell_below hW a0) rfl ?_
    go_simp
    refine hK _ ?_
    clear hK K
    refine wpQuiet_nil ?_
    refine rd_step rfl ?_
    refine wpQuiet_step (fun K hK => ?_)
    rw [if_pos (by rfl)]
    refine quiet_sload _ _ rfl smpT (fun W hW => smp_below hW S0) rfl ?_
    go_simp
    refine hK _ ?_
    clear hK K
    refine wpQuiet_nil ?_
    refine rd_step rfl ?_
    refine wpQuiet_step (fun K hK => ?_)
    rw [if_pos (by rfl)]
    first | refine quiet_move _ rfl ?_ | refine quiet_assign _ rfl ?_
    go_simp
    refine hK _ ?_
    clear hK K
    refine wpQuiet_nil ?_
    refine rd_step rfl ?_
    refine wpQuiet_step (fun K hK => ?_)
    rw [if_pos (by rfl)]
    refine quiet_val (.int .i64 (x + 1)) (fun W hW => by simp [execOp, go_sem, gx]) ?_
    go_simp
    refine hK _ ?_
    clear hK K
    refine wpQuiet_nil ?_
    refine rd_step rfl ?_
    refine wpQuiet_step (fun K hK => ?_)
    rw [if_pos (by rfl)]
    first | refine quiet_move _ rfl ?_ | refine quiet_assign _ rfl ?_
    go_simp
    refine hK _ ?_
    clear hK K
    refine wpQuiet_nil ?_
    refine rd_step rfl ?_
    refine wpQuiet_step (fun K hK => ?_)
    rw [if_pos (by rfl)]
    first | refine quiet_move _ rfl ?_ | refine quiet_assign _ rfl ?_
    go_simp
    refine hK _ ?_
    clear hK K
    refine wpQuiet_nil ?_
    refine rd_step rfl ?_
    refine wpQuiet_step (fun K hK => ?_)
    rw [if_pos (by rfl)]
    first | refine quiet_move _ rfl ?_ | refine quiet_assign _ rfl ?_
    go_simp
    refine hK _ ?_
    clear hK K
    refine wpQuiet_nil ?_
    exact ⟨0, (by unfold sbR; go_simp), F⟩
  · intro k hk
    match k, hk with
    | 0, _ =>
      intro a' W h
      obtain ⟨b13, rfl, F⟩ := h
      refine ⟨fun h => absurd h (by decide), ?_⟩
      refine al2 ?_ ?_
      · refine ⟨_, rfl, ?_⟩
        unfold sbR
        go_simp
        go_wp2_with (go_at_call 38; (refine (CA.out _ (JX.on F)).mono ?_); rintro _ V ⟨rfl, B⟩)
        exact ⟨bon F B, b13, (by unfold sbR; go_simp), bon F B⟩
      · refine ⟨_, rfl, ?_⟩
        unfold sbR
        go_simp
        go_wp2_with fail
        have bx := box_below W #[.int .i64 0, .int .i64 0, .int .i64 0, .int .i64 0] 25
        exact ⟨bon F bx, W.heap.size, (by unfold sbR; go_simp), bon F bx, VBox.made W 0 0 0 0 25, F.size⟩
    | 1, _ =>
      intro a' W h
      obtain ⟨b13, rfl, F⟩ := h
      refine ⟨fun h => absurd h (by decide), ?_⟩
      refine al2 ?_ ?_
      · refine ⟨_, rfl, ?_⟩
        unfold sbR
        go_simp
        go_wp2_with (go_at_call 38; (refine (CB.out _ (JX.on F)).mono ?_); rintro _ V ⟨rfl, B⟩)
        exact ⟨bon F B, b13, (by unfold sbR; go_simp), bon F B⟩
      · refine ⟨_, rfl, ?_⟩
        unfold sbR
        go_simp
        go_wp2_with fail
        have bx := box_below W #[.int .i64 0, .int .i64 0, .int .i64 0, .int .i64 0] 25
        exact ⟨bon F bx, W.heap.size, (by unfold sbR; go_simp), bon F bx, VBox.made W 0 0 0 0 25, F.size⟩
    | 2, _ =>
      intro a' W h
      obtain ⟨b13, rfl, F, E13, G13⟩ := h
      refine ⟨fun h => absurd h (by decide), ?_⟩
      refine al1 ?_
      · refine ⟨_, rfl, ?_⟩
        unfold sbR
        go_simp
        go_wp2_with (go_at_call 38; (refine (CA.out _ (JX.on F)).mono ?_); rintro _ V ⟨rfl, B⟩)
        exact ⟨bon F B, b13, (by unfold sbR; go_simp), bon F B, E13.on B, G13⟩
    | 3, _ =>
      intro a' W h
      obtain ⟨b13, rfl, F⟩ := h
      refine ⟨fun h => absurd h (by decide), ?_⟩
      refine al2 ?_ ?_
      · refine ⟨_, rfl, ?_⟩
        unfold sbR
        go_simp
        go_wp2_with (go_at_call 35; (refine (CF.out _).mono ?_); rintro _ V ⟨rfl, B⟩)
        exact ⟨bon F B, b13, (by unfold sbR; go_simp), bon F B⟩
      · refine ⟨_, rfl, ?_⟩
        unfold sbR
        go_simp
        go_wp2_with fail
        have bx := box_below W #[.int .i64 0, .int .i64 0, .int .i64 0, .int .i64 0] 25
        exact ⟨bon F bx, W.heap.size, (by unfold sbR; go_simp), bon F bx, VBox.made W 0 0 0 0 25, F.size⟩
    | 4, _ =>
      intro a' W h
      obtain ⟨b13, rfl, F, E13, G13⟩ := h
      refine ⟨fun h => absurd h (by decide), ?_⟩
      refine al1 ?_
      · refine ⟨_, rfl, ?_⟩
        unfold sbR
        go_simp
        go_wp2_with (go_at_call 38; (refine (CB.out _ (JX.on F)).mono ?_); rintro _ V ⟨rfl, B⟩)
        exact ⟨bon F B, b13, (by unfold sbR; go_simp), bon F B, E13.on B, G13⟩
    | 5, _ =>
      intro a' W h
      obtain ⟨b13, rfl, F⟩ := h
      refine ⟨fun h => absurd h (by decide), ?_⟩
      refine al2 ?_ ?_
      · refine ⟨_, rfl, ?_⟩
        unfold sbR
        go_simp
        go_wp2_with (go_at_call 34; (refine (CU.out _).mono ?_); rintro _ V ⟨rfl, B⟩)
        exact ⟨bon F B, b13, (by unfold sbR; go_simp), bon F B⟩
      · refine ⟨_, rfl, ?_⟩
        unfold sbR
        go_simp
        go_wp2_with fail
        have bx := box_below W #[.int .i64 0, .int .i64 0, .int .i64 0, .int .i64 0] 25
        exact ⟨bon F bx, W.heap.size, (by unfold sbR; go_simp), bon F bx, VBox.made W 0 0 0 0 25, F.size⟩
    | 6, _ =>
      intro a' W h
      obtain ⟨b13, rfl, F, E13, G13⟩ := h
      refine ⟨fun h => absurd h (by decide), ?_⟩
      refine al1 ?_
      · refine ⟨_, rfl, ?_⟩
        unfold sbR
        go_simp
        go_wp2_with (go_at_call 35; (refine (CF.out _).mono ?_); rintro _ V ⟨rfl, B⟩)
        exact ⟨bon F B, b13, (by unfold sbR; go_simp), bon F B, E13.on B, G13⟩
    | 7, _ =>
      intro a' W h
      obtain ⟨b13, rfl, F⟩ := h
      refine ⟨fun h => absurd h (by decide), ?_⟩
      refine al1 ?_
      · refine ⟨_, rfl, ?_⟩
        unfold sbR
        go_simp
        go_wp2_with fail
        have bx := box_below W #[.int .i64 0, .int .i64 0, .int .i64 0, .int .i64 0] 25
        exact ⟨bon F bx, W.heap.size, (by unfold sbR; go_simp), bon F bx, VBox.made W 0 0 0 0 25, F.size⟩
    | 8, _ =>
      intro a' W h
      obtain ⟨b13, rfl, F, E13, G13⟩ := h
      refine ⟨fun h => absurd h (by decide), ?_⟩
      refine al1 ?_
      · refine ⟨_, rfl, ?_⟩
        unfold sbR
        go_simp
        go_wp2_with (go_at_call 34; (refine (CU.out _).mono ?_); rintro _ V ⟨rfl, B⟩)
        exact ⟨bon F B, b13, (by unfold sbR; go_simp), bon F B, E13.on B, G13⟩
    | 9, _ =>
      intro a' W h
      obtain ⟨b13, rfl, F, E13, G13⟩ := h
      refine ⟨fun h => absurd h (by decide), ?_⟩
      refine al1 ?_
      · refine ⟨_, rfl, ?_⟩
        unfold sbR
        go_simp
        go_wp2_with (refine wpList_vset rfl _ _ _ rfl _ _ _ _ rfl rfl E13 (by kernel_rfl) ?_; intro V B E13' hv _)
        exact ⟨F.trans (B.mono G13), b13, (by unfold sbR; go_simp), F.trans (B.mono G13), E13', G13⟩
    | 10, _ =>
      intro a' W h
      obtain ⟨b13, rfl, F, E13, G13⟩ := h
      exact ⟨fun _ => rfl, fun e he => by cases he⟩
    | k + 11, hk => exact absurd hk (by show ¬ k + 11 < 11; omega)
  rintro _ U1 ⟨b13, rfl, F, E13, G13⟩
  replace BB := bon BB F
  replace a0 := cell_below F a0
  replace S0 := smp_below F S0
  replace D := D.on F
  replace JX := JX.on F
  clear F G13
  unfold sbR
  go_simp
  go_wp2_with fail
  refine wp_region_dag (scSt U1 A n c s x y lv aa fx vc vd vl) (fun U => Below U1.heap.size U1 U) [0, 1, 2, 3, 4, 5, 7, 8, 9, 10, 11, 12, 13, 15] scDag 10 (by kernel_rfl) (by kernel_rfl) (fun U hB => hB) ?_ ?_ ?_
  · intro V0 F
    refine rd_step rfl ?_
    refine wpQuiet_step (fun K hK => ?_)
    rw [if_pos (by rfl)]
    refine quiet_txload _ _ rfl texT (fun W hW => cell_below hW a0) rfl ?_
    go_simp
    refine hK _ ?_
    clear hK K
    refine wpQuiet_nil ?_
    refine rd_step rfl ?_
    refine wpQuiet_step (fun K hK => ?_)
    rw [if_pos (by rfl)]
    refine quiet_sload _ _ rfl smpT (fun W hW => smp_below hW S0) rfl ?_
    go_simp
    refine hK _ ?_
    clear hK K
    refine wpQuiet_nil ?_
    refine rd_step rfl ?_
    refine wpQuiet_step (fun K hK => ?_)
    rw [if_pos (by rfl)]
    first | refine quiet_move _ rfl ?_ | refine quiet_assign _ rfl ?_
    go_simp
    refine hK _ ?_
    clear hK K
    refine wpQuiet_nil ?_
    refine rd_step rfl ?_
    refine wpQuiet_step (fun K hK => ?_)
    rw [if_pos (by rfl)]
    first | refine quiet_move _ rfl ?_ | refine quiet_assign _ rfl ?_
    go_simp
    refine hK _ ?_
    clear hK K
    refine wpQuiet_nil ?_
    refine rd_step rfl ?_
    refine wpQuiet_step (fun K hK => ?_)
    rw [if_pos (by rfl)]
    refine quiet_val (.int .i64 (y + 1)) (fun W hW => by simp [execOp, go_sem, gy]) ?_
    go_simp
    refine hK _ ?_
    clear hK K
    refine wpQuiet_nil ?_
    refine rd_step rfl ?_
    refine wpQuiet_step (fun K hK => ?_)
    rw [if_pos (by rfl)]
    first | refine quiet_move _ rfl ?_ | refine quiet_assign _ rfl ?_
    go_simp
    refine hK _ ?_
    clear hK K
    refine wpQuiet_nil ?_
    refine rd_step rfl ?_
    refine wpQuiet_step (fun K hK => ?_)
    rw [if_pos (by rfl)]
    refine quiet_txload _ _ rfl texT (fun W hW => cell_below hW a0) rfl ?_
    go_simp
    refine hK _ ?_
    clear hK K
    refine wpQuiet_nil ?_
    refine rd_step rfl ?_
    refine wpQuiet_step (fun K hK => ?_)
    rw [if_pos (by rfl)]
    refine quiet_sload _ _ rfl smpT (fun W hW => smp_below hW S0) rfl ?_
    go_simp
    refine hK _ ?_
    clear hK K
    refine wpQuiet_nil ?_
    refine rd_step rfl ?_
    refine wpQuiet_step (fun K hK => ?_)
    rw [if_pos (by rfl)]
    first | refine quiet_move _ rfl ?_ | refine quiet_assign _ rfl ?_
    go_simp
    refine hK _ ?_
    clear hK K
    refine wpQuiet_nil ?_
    refine rd_step rfl ?_
    refine wpQuiet_step (fun K hK => ?_)
    rw [if_pos (by rfl)]
    refine quiet_val (.int .i64 (x + 1)) (fun W hW => by simp [execOp, go_sem, gx]) ?_
    go_simp
    refine hK _ ?_
    clear hK K
    refine wpQuiet_nil ?_
    refine rd_step rfl ?_
    refine wpQuiet_step (fun K hK => ?_)
    rw [if_pos (by rfl)]
    first | refine quiet_move _ rfl ?_ | refine quiet_assign _ rfl ?_
    go_simp
    refine hK _ ?_
    clear hK K
    refine wpQuiet_nil ?_
    refine rd_step rfl ?_
    refine wpQuiet_step (fun K hK => ?_)
    rw [if_pos (by rfl)]
    refine quiet_val (.int .i64 (y + 1)) (fun W hW => by simp [execOp, go_sem, gy]) ?_
    go_simp
    refine hK _ ?_
    clear hK K
    refine wpQuiet_nil ?_
    refine rd_step rfl ?_
    refine wpQuiet_step (fun K hK => ?_)
    rw [if_pos (by rfl)]
    first | refine quiet_move _ rfl ?_ | refine quiet_assign _ rfl ?_
    go_simp
    refine hK _ ?_
    clear hK K
    refine wpQuiet_nil ?_
    refine rd_step rfl ?_
    refine wpQuiet_step (fun K hK => ?_)
    rw [if_pos (by rfl)]
    first | refine quiet_move _ rfl ?_ | refine quiet_assign _ rfl ?_
    go_simp
    refine hK _ ?_
    clear hK K
    refine wpQuiet_nil ?_
    exact ⟨0, (by unfold scR; go_simp), F⟩
  · intro k hk
    match k, hk with
    | 0, _ =>
      intro a' W h
      obtain ⟨b14, rfl, F⟩ := h
      refine ⟨fun h => absurd h (by decide), ?_⟩
      refine al2 ?_ ?_
      · refine ⟨_, rfl, ?_⟩
        unfold scR
        go_simp
        go_wp2_with (go_at_call 38; (refine (CC.out _ (JX.on F)).mono ?_); rintro _ V ⟨rfl, B⟩)
        exact ⟨bon F B, b14, (by unfold scR; go_simp), bon F B⟩
      · refine ⟨_, rfl, ?_⟩
        unfold scR
        go_simp
        go_wp2_with fail
        have bx := box_below W #[.int .i64 0, .int .i64 0, .int .i64 0, .int .i64 0] 25
        exact ⟨bon F bx, W.heap.size, (by unfold scR; go_simp), bon F bx, VBox.made W 0 0 0 0 25, F.size⟩
    | 1, _ =>
      intro a' W h
      obtain ⟨b14, rfl, F⟩ := h
      refine ⟨fun h => absurd h (by decide), ?_⟩
      refine al2 ?_ ?_
      · refine ⟨_, rfl, ?_⟩
        unfold scR
        go_simp
        go_wp2_with (go_at_call 38; (refine (CD.out _ (JX.on F)).mono ?_); rintro _ V ⟨rfl, B⟩)
        exact ⟨bon F B, b14, (by unfold scR; go_simp), bon F B⟩
      · refine ⟨_, rfl, ?_⟩
        unfold scR
        go_simp
        go_wp2_with fail
        have bx := box_below W #[.int .i64 0, .int .i64 0, .int .i64 0, .int .i64 0] 25
        exact ⟨bon F bx, W.heap.size, (by unfold scR; go_simp), bon F bx, VBox.made W 0 0 0 0 25, F.size⟩
    | 2, _ =>
      intro a' W h
      obtain ⟨b14, rfl, F, E14, G14⟩ := h
      refine ⟨fun h => absurd h (by decide), ?_⟩
      refine al1 ?_
      · refine ⟨_, rfl, ?_⟩
        unfold scR
        go_simp
        go_wp2_with (go_at_call 38; (refine (CC.out _ (JX.on F)).mono ?_); rintro _ V ⟨rfl, B⟩)
        exact ⟨bon F B, b14, (by unfold scR; go_simp), bon F B, E14.on B, G14⟩
    | 3, _ =>
      intro a' W h
      obtain ⟨b14, rfl, F⟩ := h
      refine ⟨fun h => absurd h (by decide), ?_⟩
      refine al2 ?_ ?_
      · refine ⟨_, rfl, ?_⟩
        unfold scR
        go_simp
        go_wp2_with (go_at_call 35; (refine (CF.out _).mono ?_); rintro _ V ⟨rfl, B⟩)
        exact ⟨bon F B, b14, (by unfold scR; go_simp), bon F B⟩
      · refine ⟨_, rfl, ?_⟩
        unfold scR
        go_simp
        go_wp2_with fail
        have bx := box_below W #[.int .i64 0, .int .i64 0, .int .i64 0, .int .i64 0] 25
        exact ⟨bon F bx, W.heap.size, (by unfold scR; go_simp), bon F bx, VBox.made W 0 0 0 0 25, F.size⟩
    | 4, _ =>
      intro a' W h
      obtain ⟨b14, rfl, F, E14, G14⟩ := h
      refine ⟨fun h => absurd h (by decide), ?_⟩
      refine al1 ?_
      · refine ⟨_, rfl, ?_⟩
        unfold scR
        go_simp
        go_wp2_with (go_at_call 38; (refine (CD.out _ (JX.on F)).mono ?_); rintro _ V ⟨rfl, B⟩)
        exact ⟨bon F B, b14, (by unfold scR; go_simp), bon F B, E14.on B, G14⟩
    | 5, _ =>
      intro a' W h
      obtain ⟨b14, rfl, F⟩ := h
      refine ⟨fun h => absurd h (by decide), ?_⟩
      refine al2 ?_ ?_
      · refine ⟨_, rfl, ?_⟩
        unfold scR
        go_simp
        go_wp2_with (go_at_call 34; (refine (CL.out _).mono ?_); rintro _ V ⟨rfl, B⟩)
        exact ⟨bon F B, b14, (by unfold scR; go_simp), bon F B⟩
      · refine ⟨_, rfl, ?_⟩
        unfold scR
        go_simp
        go_wp2_with fail
        have bx := box_below W #[.int .i64 0, .int .i64 0, .int .i64 0, .int .i64 0] 25
        exact ⟨bon F bx, W.heap.size, (by unfold scR; go_simp), bon F bx, VBox.made W 0 0 0 0 25, F.size⟩
    | 6, _ =>
      intro a' W h
      obtain ⟨b14, rfl, F, E14, G14⟩ := h
      refine ⟨fun h => absurd h (by decide), ?_⟩
      refine al1 ?_
      · refine ⟨_, rfl, ?_⟩
        unfold scR
        go_simp
        go_wp2_with (go_at_call 35; (refine (CF.out _).mono ?_); rintro _ V ⟨rfl, B⟩)
        exact ⟨bon F B, b14, (by unfold scR; go_simp), bon F B, E14.on B, G14⟩
    | 7, _ =>
      intro a' W h
      obtain ⟨b14, rfl, F⟩ := h
      refine ⟨fun h => absurd h (by decide), ?_⟩
      refine al1 ?_
      · refine ⟨_, rfl, ?_⟩
        unfold scR
        go_simp
        go_wp2_with fail
        have bx := box_below W #[.int .i64 0, .int .i64 0, .int .i64 0, .int .i64 0] 25
        exact ⟨bon F bx, W.heap.size, (by unfold scR; go_simp), bon F bx, VBox.made W 0 0 0 0 25, F.size⟩
    | 8, _ =>
      intro a' W h
      obtain ⟨b14, rfl, F, E14, G14⟩ := h
      refine ⟨fun h => absurd h (by decide), ?_⟩
      refine al1 ?_
      · refine ⟨_, rfl, ?_⟩
        unfold scR
        go_simp
        go_wp2_with (go_at_call 34; (refine (CL.out _).mono ?_); rintro _ V ⟨rfl, B⟩)
        exact ⟨bon F B, b14, (by unfold scR; go_simp), bon F B, E14.on B, G14⟩
    | 9, _ =>
      intro a' W h
      obtain ⟨b14, rfl, F, E14, G14⟩ := h
      refine ⟨fun h => absurd h (by decide), ?_⟩
      refine al1 ?_
      · refine ⟨_, rfl, ?_⟩
        unfold scR
        go_simp
        go_wp2_with (refine wpList_vset rfl _ _ _ rfl _ _ _ _ rfl rfl E14 (by kernel_rfl) ?_; intro V B E14' hv _)
        exact ⟨F.trans (B.mono G14), b14, (by unfold scR; go_simp), F.trans (B.mono G14), E14', G14⟩
    | 10, _ =>
      intro a' W h
      obtain ⟨b14, rfl, F, E14, G14⟩ := h
      exact ⟨fun _ => rfl, fun e he => by cases he⟩
    | k + 11, hk => exact absurd hk (by show ¬ k + 11 < 11; omega)
  rintro _ U2 ⟨b14, rfl, F, E14, G14⟩
  replace BB := bon BB F
  replace a0 := cell_below F a0
  replace S0 := smp_below F S0
  replace D := D.on F
  replace JX := JX.on F
  replace E13 := E13.on F
  clear F G14
  unfold scR
  go_simp
  go_wp2_with fail
  have V13 := E13.1
  have V14 := E14.1
  clear E13 E14 a0 S0 JX
  refine wp_region_tail (n := 5) (by kernel_rfl) (by kernel_rfl) ?_
  simp only [List.take_succ_cons, List.take_zero, List.drop_succ_cons, List.drop_zero]
  repeat (first | (go_big_quiet_want; refine quiet_vload _ _ rfl vecT (fun W hW => VecAt.on V13 (below_regrown' hW)) rfl ?_; go_simp; go_big_quiet_on) | (go_big_quiet_want; refine quiet_vload _ _ rfl vecT (fun W hW => VecAt.on V14 (below_regrown' hW)) rfl ?_; go_simp; go_big_quiet_on) | go_big_quiet_step ((first | (go_at_call 35; with_reducible exact Calls.regrown_of (CFY.out _)) | (go_at_call 34; with_reducible exact Calls.regrown_of (CE.out _)))) | quiet_step ((first | (go_at_call 35; with_reducible exact Calls.regrown_of (CFY.out _)) | (go_at_call 34; with_reducible exact Calls.regrown_of (CE.out _)))))
  refine wpQuiet_nil ?_
  intro W hw'
  have B := below_regrown' hw'
  clear hw'
  replace BB := bon BB B
  replace V13 := VecAt.on V13 B
  replace V14 := VecAt.on V14 B
  replace D := D.on B
  go_wp2_with (refine wpList_vset rfl _ _ _ rfl _ _ _ _ rfl rfl D (by kernel_rfl) ?_; intro V2 B2 D3 hD _)
  obtain ⟨⟨d0, d1, d2, d3⟩, _⟩ := D3
  exact bodyPost_ret (v := .agg #[.int .i64 (ve 0), .int .i64 (ve 1), .int .i64 (ve 2), .int .i64 (ve 3)]) (by simp [results, Try.results39, go_sem, *]) rfl ⟨rfl, BB.trans (B2.mono (by omega))⟩

end Go.Proofs.Ytoipmldbjciinaa
