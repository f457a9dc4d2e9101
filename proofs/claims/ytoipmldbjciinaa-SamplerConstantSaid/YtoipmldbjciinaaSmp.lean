/- Samplers (twelve integers) in memory, as one letter. No function of a program is named here. -/
import Derived.Test.YtoipmldbjciinaaImgs
import Derived.Test.YtoipmldbjciinaaTreeC
namespace Go.Proofs.Ytoipmldbjciinaa
open Go.RowKit Go.Sort

/-- The cells of a sampler. -/
def smps (s : Nat → Int) : Array Value := #[.int .i64 (s 0), .int .i64 (s 1), .int .i64 (s 2), .int .i64 (s 3), .int .i64 (s 4), .int .i64 (s 5), .int .i64 (s 6), .int .i64 (s 7), .int .i64 (s 8), .int .i64 (s 9), .int .i64 (s 10), .int .i64 (s 11)]

theorem smps_size (s : Nat → Int) : (smps s).size = 12 := rfl

/-- A struct type of n cells. -/
structure RowT (P : Program) (t : TypeId) (n : Nat) : Prop where
  row : ∃ d, P.underlying t = some d ∧ d.isRow = true
  size : (P.info? t).map (·.size) = some n

theorem smps_get (s : Nat → Int) : ∀ i, i < 12 → (smps s)[i]? = some (.int .i64 (s i)) := by
  intro i hi
  match i, hi with
  | 0, _ => rfl
  | 1, _ => rfl
  | 2, _ => rfl
  | 3, _ => rfl
  | 4, _ => rfl
  | 5, _ => rfl
  | 6, _ => rfl
  | 7, _ => rfl
  | 8, _ => rfl
  | 9, _ => rfl
  | 10, _ => rfl
  | 11, _ => rfl
  | n + 12, h => omega

theorem smp_below {W W1 : World} {b : Nat} {s : Nat → Int} (h : Below W.heap.size W W1) (c : (∀ i, i < 12 → W.cell? ⟨b, i, none⟩ = some (.int .i64 (s i)))) : (∀ i, i < 12 → W1.cell? ⟨b, i, none⟩ = some (.int .i64 (s i))) := fun i hi => cell_below h (c i hi)

theorem smp_under {W W1 : World} {b B : Nat} {s : Nat → Int} (h : Below B W W1) (hb : b < B) (c : (∀ i, i < 12 → W.cell? ⟨b, i, none⟩ = some (.int .i64 (s i)))) : (∀ i, i < 12 → W1.cell? ⟨b, i, none⟩ = some (.int .i64 (s i))) := fun i hi => (h.cell (p := ⟨b, i, none⟩) hb).trans (c i hi)

theorem smp_regrown {W : World} {b : Nat} {s : Nat → Int} (c : (∀ i, i < 12 → W.cell? ⟨b, i, none⟩ = some (.int .i64 (s i)))) (d : Nat) (os : Array Obj) : (∀ i, i < 12 → (grow (redrawn W d) os).cell? ⟨b, i, none⟩ = some (.int .i64 (s i))) := fun i hi => cell_regrown (c i hi) d os

theorem smp_class {W : World} {b : Nat} {s : Nat → Int} (c : (∀ i, i < 12 → W.cell? ⟨b, i, none⟩ = some (.int .i64 (s i)))) {V : World} (h : ∃ p : Regrown, V = grow (redrawn W p.d) p.os) : (∀ i, i < 12 → V.cell? ⟨b, i, none⟩ = some (.int .i64 (s i))) := by
  obtain ⟨p, rfl⟩ := h; exact smp_regrown c p.d p.os

theorem smp_box (w : World) (s : Nat → Int) (t : TypeId) : (∀ i, i < 12 → (w.alloc (.cells (smps s) t)).cell? ⟨w.heap.size, i, none⟩ = some (.int .i64 (s i))) := fun i hi => box_cell w _ t i _ (smps_get s i hi)

theorem smp_range {W : World} {b : Nat} {s : Nat → Int} (c : (∀ i, i < 12 → W.cell? ⟨b, i, none⟩ = some (.int .i64 (s i)))) : W.rangeAt b 0 [.int .i64 (s 0), .int .i64 (s 1), .int .i64 (s 2), .int .i64 (s 3), .int .i64 (s 4), .int .i64 (s 5), .int .i64 (s 6), .int .i64 (s 7), .int .i64 (s 8), .int .i64 (s 9), .int .i64 (s 10), .int .i64 (s 11)] := by
  intro j v hv
  rw [Nat.zero_add]
  have hj : j < 12 := (List.getElem?_eq_some_iff.1 hv).1
  have h1 := smps_get s j hj
  unfold smps at h1
  rw [List.getElem?_toArray] at h1
  rw [h1] at hv
  injection hv with hv
  subst hv
  exact c j hj

theorem bord_range {W : World} {b : Nat} {s : Nat → Int} (c : (∀ i, i < 12 → W.cell? ⟨b, i, none⟩ = some (.int .i64 (s i)))) : W.rangeAt b 5 [.int .i64 (s 5), .int .i64 (s 6), .int .i64 (s 7), .int .i64 (s 8)] := by
  intro j v hv
  match j, hv with
  | 0, hv => simp at hv; subst hv; exact c 5 (by omega)
  | 1, hv => simp at hv; subst hv; exact c 6 (by omega)
  | 2, hv => simp at hv; subst hv; exact c 7 (by omega)
  | 3, hv => simp at hv; subst hv; exact c 8 (by omega)

section
variable {P : Program} {ops : Array Oper} {C : World → Prop} {Q : Exit → Act → World → Prop} {rest : List Oper} {op : Oper} {a : Act} {W : World} {b : Nat} {s : Nat → Int}

/-- A whole sampler loaded. -/
theorem wpList_sload (hg : op.guard = none) (ty : TypeId) (x : Operand) (ho : op.op = .load ty x) (T : RowT P ty 12) (k : (∀ i, i < 12 → W.cell? ⟨b, i, none⟩ = some (.int .i64 (s i))))
    (hx : a.eval x = .pointer (some ⟨b, 0, none⟩)) (H : wpList P ops Q rest (a.put op.dst (.agg (smps s))) W) : wpList P ops Q (op :: rest) a W := by
  obtain ⟨⟨d, h1, h2⟩, h3⟩ := T
  exact wpList_load_mid hg ty x ho b 0 hx _ d (smp_range k) h1 h2 h3 H

theorem quiet_sload {K : Act → Prop} (ty : TypeId) (x : Operand) (ho : op.op = .load ty x) (T : RowT P ty 12)
    (k : ∀ W, C W → (∀ i, i < 12 → W.cell? ⟨b, i, none⟩ = some (.int .i64 (s i)))) (hx : a.eval x = .pointer (some ⟨b, 0, none⟩)) (hk : K (a.put op.dst (.agg (smps s)))) : op.quiet P a C K :=
  ⟨_, fun W hW => by
    obtain ⟨⟨d, h1, h2⟩, h3⟩ := T
    unfold Oper.quietAt execOp
    simp only [ho, hx, Instr.loadAt, Instr.sureAddr, Sem.run_bind, Sem.run_pure, Result.andThen_ok, run_loadVar_mid W b 0 ty _ d (smp_range (k W hW)) h1 h2 h3]
    exact ⟨rfl, rfl⟩, hk⟩

/-- A sampler's border loaded. -/
theorem wpList_bload (hg : op.guard = none) (ty : TypeId) (x : Operand) (ho : op.op = .load ty x) (T : RowT P ty 4) (k : (∀ i, i < 12 → W.cell? ⟨b, i, none⟩ = some (.int .i64 (s i))))
    (hx : a.eval x = .pointer (some ⟨b, 5, none⟩)) (H : wpList P ops Q rest (a.put op.dst (.agg #[.int .i64 (s 5), .int .i64 (s 6), .int .i64 (s 7), .int .i64 (s 8)])) W) : wpList P ops Q (op :: rest) a W := by
  obtain ⟨⟨d, h1, h2⟩, h3⟩ := T
  exact wpList_load_mid hg ty x ho b 5 hx _ d (bord_range k) h1 h2 h3 H

theorem quiet_bload {K : Act → Prop} (ty : TypeId) (x : Operand) (ho : op.op = .load ty x) (T : RowT P ty 4)
    (k : ∀ W, C W → (∀ i, i < 12 → W.cell? ⟨b, i, none⟩ = some (.int .i64 (s i)))) (hx : a.eval x = .pointer (some ⟨b, 5, none⟩)) (hk : K (a.put op.dst (.agg #[.int .i64 (s 5), .int .i64 (s 6), .int .i64 (s 7), .int .i64 (s 8)]))) : op.quiet P a C K :=
  ⟨_, fun W hW => by
    obtain ⟨⟨d, h1, h2⟩, h3⟩ := T
    unfold Oper.quietAt execOp
    simp only [ho, hx, Instr.loadAt, Instr.sureAddr, Sem.run_bind, Sem.run_pure, Result.andThen_ok, run_loadVar_mid W b 5 ty _ d (bord_range (k W hW)) h1 h2 h3]
    exact ⟨rfl, rfl⟩, hk⟩
end

end Go.Proofs.Ytoipmldbjciinaa
