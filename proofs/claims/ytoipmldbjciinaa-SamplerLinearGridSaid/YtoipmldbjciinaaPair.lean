/- Structs of two integers in a block. No function of a program is named here. -/
import Derived.Test.YtoipmldbjciinaaSmp
namespace Go.Proofs.Ytoipmldbjciinaa
open Go.RowKit Go.Sort

/-- Two integers lie in block b. -/
def P2At (W : World) (b : Nat) (x0 x1 : Int) : Prop := W.cell? ⟨b, 0, none⟩ = some (.int .i64 x0) ∧ W.cell? ⟨b, 1, none⟩ = some (.int .i64 x1)

theorem P2At.on {W V : World} {b : Nat} {x0 x1 : Int} (h : P2At W b x0 x1) (B : Below W.heap.size W V) : P2At V b x0 x1 := ⟨cell_below B h.1, cell_below B h.2⟩

theorem P2At.below {W V : World} {b B : Nat} {x0 x1 : Int} (h : P2At W b x0 x1) (hb : b < B) (k : Below B W V) : P2At V b x0 x1 := ⟨(k.cell hb).trans h.1, (k.cell hb).trans h.2⟩

/-- .. and may be written. -/
def P2Box (W : World) (b : Nat) (x0 x1 : Int) : Prop := P2At W b x0 x1 ∧ ∀ i, W.frozen? ⟨b, i, none⟩ = false

theorem P2Box.lt {W : World} {b : Nat} {x0 x1 : Int} (h : P2Box W b x0 x1) : b < W.heap.size := block_lt_of_cell h.1.1

theorem P2Box.on {W V : World} {b : Nat} {x0 x1 : Int} (h : P2Box W b x0 x1) (B : Below W.heap.size W V) : P2Box V b x0 x1 := ⟨h.1.on B, fun i => (B.frozen (p := ⟨b, i, none⟩) h.lt).trans (h.2 i)⟩

theorem P2Box.made (W : World) (x0 x1 : Int) (t : TypeId) : P2Box (W.alloc (.cells #[.int .i64 x0, .int .i64 x1] t)) W.heap.size x0 x1 :=
  ⟨⟨by simp, by simp⟩, fun i => by rw [frozen?_alloc_cells]; unfold World.frozen?; simp⟩

theorem P2Box.keep {W V : World} {b c : Nat} {x0 x1 : Int} (h : P2Box W b x0 x1) (hne : b ≠ c) (hc : ∀ a : Addr, a.block ≠ c → V.cell? a = W.cell? a) (hf : ∀ a : Addr, V.frozen? a = W.frozen? a) : P2Box V b x0 x1 :=
  ⟨⟨(hc _ hne).trans h.1.1, (hc _ hne).trans h.1.2⟩, fun i => (hf _).trans (h.2 i)⟩

theorem p2_range {W : World} {b : Nat} {x0 x1 : Int} (c : P2At W b x0 x1) : W.rangeAt b 0 [.int .i64 x0, .int .i64 x1] := by
  intro j v hv
  match j, hv with
  | 0, hv => simp at hv; subst hv; exact c.1
  | 1, hv => simp at hv; subst hv; exact c.2

section
variable {P : Program} {ops : Array Oper} {C : World → Prop} {Q : Exit → Act → World → Prop} {rest : List Oper} {op : Oper} {a : Act} {W : World} {b : Nat} {x0 x1 : Int}

/-- A pair loaded. -/
theorem quiet_p2load {K : Act → Prop} (ty : TypeId) (x : Operand) (ho : op.op = .load ty x) (T : RowT P ty 2)
    (k : ∀ W, C W → P2At W b x0 x1) (hx : a.eval x = .pointer (some ⟨b, 0, none⟩)) (hk : K (a.put op.dst (.agg #[.int .i64 x0, .int .i64 x1]))) : op.quiet P a C K :=
  ⟨_, fun W hW => by
    obtain ⟨⟨d, h1, h2⟩, h3⟩ := T
    unfold Oper.quietAt execOp
    simp only [ho, hx, Instr.loadAt, Instr.sureAddr, Sem.run_bind, Sem.run_pure, Result.andThen_ok, run_loadVar_mid W b 0 ty _ d (p2_range (k W hW)) h1 h2 h3]
    exact ⟨rfl, rfl⟩, hk⟩

/-- A value that no world changes. -/
theorem quiet_pval {K : Act → Prop} (v : Value) (hs : ∀ W, C W → (execOp a.eval op).run P W = .ok (.value v) W) (hk : K (a.put op.dst v)) : op.quiet P a C K :=
  ⟨v, fun W hW => by
    unfold Oper.quietAt
    rw [hs W hW]
    exact ⟨rfl, rfl⟩, hk⟩

/-- A pair stored. -/
theorem wpList_p2set (hg : op.guard = none) (t : TypeId) (x y : Operand) (ho : op.op = .store t x y) (v0 v1 : Int) (hx : a.eval x = .pointer (some ⟨b, 0, none⟩)) (hy : a.eval y = .agg #[.int .i64 v0, .int .i64 v1]) (K : P2Box W b x0 x1)
    (T : (P.info? t).map (·.size) = some 2)
    (H : ∀ V, P2Box V b v0 v1 → Below b W V → (∀ a : Addr, a.block ≠ b → V.cell? a = W.cell? a) → (∀ a : Addr, V.frozen? a = W.frozen? a) → wpList P ops Q rest (a.put op.dst undef) V) : wpList P ops Q (op :: rest) a W := by
  have ht : W.there b 0 2 := by
    intro j hj
    refine ⟨?_, K.2 _⟩
    match j, hj with
    | 0, _ => rw [show (0 + 0 : Nat) = 0 from rfl, K.1.1]; rfl
    | 1, _ => rw [show (0 + 1 : Nat) = 1 from rfl, K.1.2]; rfl
  refine wpList_store_mid hg t x y ho b 0 #[.int .i64 v0, .int .i64 v1] hx hy ht T (by simp [Value.oneCell']) ?_
  have hB : ∀ (vs : List Value) (o : Nat) (V : World), Below b W V → Below b W (V.setCells b o vs) := by
    intro vs
    induction vs with
    | nil => intro o V h; exact h
    | cons v r ih => intro o V h; exact ih (o + 1) _ (h.setCell (Nat.le_refl _) v)
  have hr := World.rangeAt_setCells_same W b 0 [.int .i64 v0, .int .i64 v1] ht
  refine H _ ⟨⟨hr 0 _ rfl, hr 1 _ rfl⟩, fun i => ?_⟩ (hB _ _ _ (Below.refl _ _)) (fun a ha => ?_) (fun a => ?_)
  · rw [World.frozen?_setCells]; exact K.2 i
  · exact World.cell?_setCells_out b _ _ _ _ (fun h => absurd h ha)
  · exact World.frozen?_setCells b _ _ _ _
end

end Go.Proofs.Ytoipmldbjciinaa
