/- One cell of a block written, as the operation is written out. No function of a program is named here. -/
import Derived.Test.YtcnemjkcihlpeaaRowN
namespace Go.Proofs.Ytcnemjkcihlpeaa
set_option linter.unusedSimpArgs false
open Go.ChangeShapes Go.WideShapes Go.RowKit Go.Sort

section
variable {P : Program} {ops : Array Oper} {Q : Exit → Act → World → Prop} {rest : List Oper} {a : Act} {W : World} {b : Nat}

theorem esetCL {dst : Option Tmp} {ty t : TypeId} {x y : Operand} {pos : String} {after : Array Edge} {vs : List Value} {i : Nat} {v : Value} (K : EBox W b vs) (hi : i < vs.length) (hx : a.eval x = .pointer (some ⟨b, i, none⟩)) (hy : a.eval y = v) (h1 : v.oneCell' = true) (hc1 : v.cells = #[v]) (hz : (P.info? t).map (·.size) = some 1)
    (H : ∀ V, EBox V b (vs.set i v) → Below b W V → (∀ a : Addr, a.block ≠ b → V.cell? a = W.cell? a) → (∀ a : Addr, V.frozen? a = W.frozen? a) → wpList P ops Q rest (a.put dst undef) V) :
    wpList P ops Q ({ dst := dst, op := .store t x y, type := ty, pos := pos, after := after, guard := none } :: rest) a W := by
  refine wpList_plain rfl fun N hN => ?_
  have hs := run_storeCells_cells (P := P) b i [v] 0 W (fun j hj => by
    obtain rfl : j = 0 := by simpa using hj
    simp [K.cell (List.getElem?_eq_getElem hi)]) (fun j hj => by
    obtain rfl : j = 0 := by simpa using hj
    simpa using K.2 i) (by simp [h1])
  have hv : (storeVar t ⟨b, i, none⟩ v).run P W = .ok () (W.setCell ⟨b, i, none⟩ v) := by
    cases hq : P.info? t with
    | none => simp [hq] at hz
    | some f =>
      have hz : f.size = 1 := by simpa [hq] using hz
      simpa [storeVar, sizeOf, typeInfo, hq, hc1, hz, World.setCells] using hs
  unfold Oper.wp execOp
  simp only [hx, hy, Instr.storeAt, Instr.sureAddr, Sem.run_bind, Sem.run_pure, Result.andThen_ok, hv]
  refine hN _ _ (H _ (EBox.upd K hi) ((Below.refl b W).setCell (Nat.le_refl _) _) (fun a ha => ?_) (fun a => World.frozen?_setCell _ _ _ _))
  rw [World.cell?_setCell_other _ _ _ _ (by intro e; rw [← e] at ha; exact ha rfl)]

end

end Go.Proofs.Ytcnemjkcihlpeaa
