/- What a frame hands on of a sampler (nine fields, one of them a vector) and of an array of four integers. No function of a program is named here. -/
import Derived.Test.YtoipmldbjciinaaSmp
import Derived.Test.YtoipmldbjciinaaOpenI
namespace Go.Proofs.Ytoipmldbjciinaa
open Go.RowKit Go.ChangeShapes Go.WideShapes Go.Joins Go.Deep

section
variable {H : Type} {enc : TypeId × Value → H} {P : Program} {w : World} {base : Nat} {spare : Nat → Bool} {held : Bool}

theorem array12 {α : Type} {cs : Array α} (h : cs.size = 12) : ∃ c0 c1 c2 c3 c4 c5 c6 c7 c8 c9 c10 c11, cs = #[c0, c1, c2, c3, c4, c5, c6, c7, c8, c9, c10, c11] := by
  obtain ⟨l⟩ := cs
  match l, h with
  | [c0, c1, c2, c3, c4, c5, c6, c7, c8, c9, c10, c11], _ => exact ⟨c0, c1, c2, c3, c4, c5, c6, c7, c8, c9, c10, c11, rfl⟩

/-- A sampler by value. -/
theorem open_smp {r : Reach} {b0 : Nat} {t : TypeId} {f0 f1 f2 f3 f4 f5 f6 f7 f8 g0 g1 g2 g3 : Field} {v : Value} {d : DataW H} {p : List MemPlace} (hs : P.underlying t = some (.struct #[f0, f1, f2, f3, f4, f5, f6, f7, f8])) (hC : P.cellsOf t = 12)
    (ho : [f0, f1, f2, f3, f4, f5, f6, f7, f8].map (fun f => (f.offset, P.cellsOf f.type)) = [(0, 1), (1, 1), (2, 1), (3, 1), (4, 1), (5, 4), (9, 1), (10, 1), (11, 1)])
    (hi : P.underlying f0.type = some (.int .i64) ∧ P.underlying f1.type = some (.int .i64) ∧ P.underlying f2.type = some (.int .i64) ∧ P.underlying f3.type = some (.int .i64) ∧ P.underlying f4.type = some (.int .i64) ∧ P.underlying f6.type = some (.int .i64) ∧ P.underlying f7.type = some (.int .i64) ∧ P.underlying f8.type = some (.int .i64))
    (hb : P.underlying f5.type = some (.struct #[g0, g1, g2, g3])) (hone : oneCellFields P #[g0, g1, g2, g3] = true)
    (hg : P.underlying g0.type = some (.int .i64) ∧ P.underlying g1.type = some (.int .i64) ∧ P.underlying g2.type = some (.int .i64) ∧ P.underlying g3.type = some (.int .i64))
    (hv : Value.okWide P w r b0 t v) (h : DataW.Trod enc P w base spare held t v d p) : ∃ s : Nat → Int, v = .agg (smps s) := by
  obtain ⟨cs, rfl, hsz⟩ := okWide_struct hs hv
  obtain ⟨c0, c1, c2, c3, c4, c5, c6, c7, c8, c9, c10, c11, rfl⟩ := array12 (hsz.trans hC)
  obtain ⟨fuel, hf⟩ := h
  obtain ⟨xs, n, _, _, _, hlen, hx⟩ := DataW.trod_struct hs hf
  match xs, hlen with
  | [y0, y1, y2, y3, y4, y5, y6, y7, y8], _ =>
    simp only [List.map_cons, List.map_nil, List.cons.injEq, Prod.mk.injEq, and_true] at ho
    obtain ⟨⟨o0, k0⟩, ⟨o1, k1⟩, ⟨o2, k2⟩, ⟨o3, k3⟩, ⟨o4, k4⟩, ⟨o5, k5⟩, ⟨o6, k6⟩, ⟨o7, k7⟩, o8, k8⟩ := ho
    obtain ⟨h0, h1, h2, h3, h4, h6, h7, h8⟩ := hi
    obtain ⟨z0, rfl, _⟩ := trod_i64 h0 (by simpa [Value.cells, o0, k0] using hx 0 f0 rfl)
    obtain ⟨z1, rfl, _⟩ := trod_i64 h1 (by simpa [Value.cells, o1, k1] using hx 1 f1 rfl)
    obtain ⟨z2, rfl, _⟩ := trod_i64 h2 (by simpa [Value.cells, o2, k2] using hx 2 f2 rfl)
    obtain ⟨z3, rfl, _⟩ := trod_i64 h3 (by simpa [Value.cells, o3, k3] using hx 3 f3 rfl)
    obtain ⟨z4, rfl, _⟩ := trod_i64 h4 (by simpa [Value.cells, o4, k4] using hx 4 f4 rfl)
    obtain ⟨z9, rfl, _⟩ := trod_i64 h6 (by simpa [Value.cells, o6, k6] using hx 6 f6 rfl)
    obtain ⟨z10, rfl, _⟩ := trod_i64 h7 (by simpa [Value.cells, o7, k7] using hx 7 f7 rfl)
    obtain ⟨z11, rfl, _⟩ := trod_i64 h8 (by simpa [Value.cells, o8, k8] using hx 8 f8 rfl)
    have hq : DataW.trod enc P w base spare held n f5.type [c5, c6, c7, c8] = some y5 := by simpa [Value.cells, o5, k5] using hx 5 f5 rfl
    obtain ⟨us, n2, _, _, _, hlen2, hu⟩ := DataW.trod_struct hb hq
    match us, hlen2 with
    | [u0, u1, u2, u3], _ =>
      obtain ⟨a0, b0⟩ := hone_of hone 0 g0 rfl
      obtain ⟨a1, b1⟩ := hone_of hone 1 g1 rfl
      obtain ⟨a2, b2⟩ := hone_of hone 2 g2 rfl
      obtain ⟨a3, b3⟩ := hone_of hone 3 g3 rfl
      obtain ⟨e0, e1, e2, e3⟩ := hg
      obtain ⟨z5, rfl, _⟩ := trod_i64 e0 (by simpa [Value.cells, a0, b0] using hu 0 g0 rfl)
      obtain ⟨z6, rfl, _⟩ := trod_i64 e1 (by simpa [Value.cells, a1, b1] using hu 1 g1 rfl)
      obtain ⟨z7, rfl, _⟩ := trod_i64 e2 (by simpa [Value.cells, a2, b2] using hu 2 g2 rfl)
      obtain ⟨z8, rfl, _⟩ := trod_i64 e3 (by simpa [Value.cells, a3, b3] using hu 3 g3 rfl)
      exact ⟨fun i => [z0, z1, z2, z3, z4, z5, z6, z7, z8, z9, z10, z11].getD i 0, rfl⟩

theorem array4' {α : Type} {cs : Array α} (h : cs.size = 4) : ∃ c0 c1 c2 c3, cs = #[c0, c1, c2, c3] := by
  obtain ⟨l⟩ := cs
  match l, h with
  | [c0, c1, c2, c3], _ => exact ⟨c0, c1, c2, c3, rfl⟩

/-- An array of four integers, by value. -/
theorem open_arr4 {r : Reach} {b0 : Nat} {t e : TypeId} {v : Value} {d : DataW H} {p : List MemPlace} (hs : P.underlying t = some (.array 4 e)) (he : P.underlying e = some (.int .i64)) (hce : P.cellsOf e = 1) (hC : P.cellsOf t = 4)
    (hv : Value.okWide P w r b0 t v) (h : DataW.Trod enc P w base spare held t v d p) : ∃ z0 z1 z2 z3 : Int, v = .agg #[.int .i64 z0, .int .i64 z1, .int .i64 z2, .int .i64 z3] := by
  obtain ⟨cs, rfl, hsz, _⟩ : ∃ cs, v = .agg cs ∧ cs.size = P.cellsOf t ∧ Row.okWide P w r b0 t cs := by simpa [Value.okWide, hs] using hv
  obtain ⟨c0, c1, c2, c3, rfl⟩ := array4' (hsz.trans hC)
  obtain ⟨fuel, hf⟩ := h
  obtain ⟨ys, m, _, _, _, hl, hy⟩ := DataW.trod_array hs hf
  have hy0 := hy 0 (by omega)
  have hy1 := hy 1 (by omega)
  have hy2 := hy 2 (by omega)
  have hy3 := hy 3 (by omega)
  rw [List.getElem?_eq_getElem (by omega)] at hy0 hy1 hy2 hy3
  simp [hce, Value.cells] at hy0 hy1 hy2 hy3
  obtain ⟨z0, rfl, _⟩ := trod_i64 he hy0
  obtain ⟨z1, rfl, _⟩ := trod_i64 he hy1
  obtain ⟨z2, rfl, _⟩ := trod_i64 he hy2
  obtain ⟨z3, rfl, _⟩ := trod_i64 he hy3
  exact ⟨z0, z1, z2, z3, rfl⟩
end

end Go.Proofs.Ytoipmldbjciinaa
