/- What a frame hands on of slices whose elements take several cells. No function of a program is named here. -/
import Derived.Test.YtadndipdkdgkbaaRowE
import Derived.Test.YtadndipdkdgkbaaOpenI
import Derived.Deep.Slices
import Derived.Deep.Fields
namespace Go.Proofs.Ytadndipdkdgkbaa
set_option linter.unusedSimpArgs false
open Go.RowKit Go.ChangeShapes Go.WideShapes Go.Joins Go.Deep

section
variable {H : Type} {enc : TypeId × Value → H} {P : Program} {w : World} {base : Nat} {spare : Nat → Bool} {held : Bool}

/-- A slice that came in, of whatever elements: 'hel' reads one of them. -/
theorem open_E {α : Type} [Inhabited α] {en : α → List Value} {k : Nat} (N : Enc en k) (Good : α → Prop) {t e : TypeId} {fuel : Nat} {v : Value} {x : DataW H × List MemPlace} (ht : P.underlying t = some (.slice e)) (hce : P.cellsOf e = k)
    (hel : ∀ (cs : List Value) (n : Nat) (y : DataW H × List MemPlace), DataW.trod enc P w base spare held n e cs = some y → ∃ z, cs = en z ∧ Good z)
    (h : DataW.trod enc P w base spare held fuel t [v] = some x) :
    ∃ A n c l, v = .slice A n c ∧ RdE en k w w.heap.size A n l ∧ (∀ z ∈ l, Good z) ∧ n ≤ c ∧ c ≤ maxLen ∧ (x.1 = .nil ∧ n = 0 ∨ ∃ elems spare, x.1 = .slice elems spare ∧ elems.length = n) := by
  rcases open_slice ht h with ⟨h1, hx⟩ | ⟨a, len, cap, m, n', D, Pl, h1, _, hl, hcap, hm, hx0, hx⟩
  · simp only [List.cons.injEq, and_true] at h1
    exact ⟨none, 0, 0, [], h1, RdE.nil _ _ _ _ _, by simp, Nat.le_refl _, Nat.zero_le _, .inl ⟨by rw [hx], rfl⟩⟩
  · simp only [List.cons.injEq, and_true] at h1
    subst h1
    have hlm : len ≤ m := by rw [hm]; split <;> omega
    have key : ∀ i, i < len → ∃ z : α, (∀ j u, (en z)[j]? = some u → w.cell? ((a.add (i * k)).add j) = some u) ∧ Good z := by
      intro i hil
      obtain ⟨cs, h2, h3⟩ := hx i (by omega)
      rw [hce] at h2
      obtain ⟨z, rfl, hz⟩ := hel _ _ _ h3
      obtain ⟨_, hlen, hc⟩ := World.cells?_some h2
      refine ⟨z, fun j u hu => ?_, hz⟩
      have hj : j < (en z).length := (List.getElem?_eq_some_iff.1 hu).1
      rw [hc j (by omega), hu]
    obtain ⟨T, hT⟩ : ∃ T : Nat → α, ∀ i, i < len → (∀ j u, (en (T i))[j]? = some u → w.cell? ((a.add (i * k)).add j) = some u) ∧ Good (T i) :=
      ⟨fun i => if h : i < len then Classical.choose (key i h) else default, fun i h => by simp only [dif_pos h]; exact Classical.choose_spec (key i h)⟩
    refine ⟨some a, len, cap, (List.range len).map T, rfl, ⟨by simp, fun hn => ?_⟩, fun t ht => ?_, hl, hcap, .inr ⟨_, _, by rw [hx0], by simp⟩⟩
    · have hk0 : 0 < (en (T 0)).length := by rw [N.len]; exact N.pos
      have h0 := (hT 0 hn).1 0 _ (List.getElem?_eq_getElem hk0)
      obtain ⟨b0, off, spot⟩ := a
      have hspot : spot = none := by
        have := World.cell?_spot h0
        simpa [Addr.add] using this
      subst hspot
      refine ⟨b0, off, rfl, ?_, fun j t ht => ?_⟩
      · rw [add_plain', add_plain'] at h0
        exact World.block_lt_of_cell? w _ h0
      · rw [List.getElem?_map, Option.map_eq_some_iff] at ht
        obtain ⟨j', hj', rfl⟩ := ht
        obtain ⟨hlt, e⟩ := List.getElem?_eq_some_iff.1 hj'
        rw [List.getElem_range] at e
        subst e
        rw [List.length_range] at hlt
        intro q u hu
        have hh := (hT j hlt).1 q u hu
        rw [add_plain', add_plain'] at hh
        exact hh
    · obtain ⟨i, hi, rfl⟩ := List.mem_map.1 ht
      exact (hT i (List.mem_range.1 hi)).2

/-- One element: a struct of four integers. -/
theorem elem4 {e : TypeId} {f0 f1 f2 f3 : Field} (he : P.underlying e = some (.struct #[f0, f1, f2, f3])) (hone : oneCellFields P #[f0, f1, f2, f3] = true) (hC : P.cellsOf e = 4)
    (hi : P.underlying f0.type = some (.int .i64) ∧ P.underlying f1.type = some (.int .i64) ∧ P.underlying f2.type = some (.int .i64) ∧ P.underlying f3.type = some (.int .i64)) (cs : List Value) (n : Nat) (y : DataW H × List MemPlace)
    (h : DataW.trod enc P w base spare held n e cs = some y) : ∃ z0 z1 z2 z3 : Int, cs = [.int .i64 z0, .int .i64 z1, .int .i64 z2, .int .i64 z3] := by
  obtain ⟨xs, m, _, _, hcl, hlen, hx⟩ := DataW.trod_struct he h
  rw [hC] at hcl
  match cs, hcl, xs, hlen with
  | [v0, v1, v2, v3], _, [y0, y1, y2, y3], _ =>
    obtain ⟨o0, k0⟩ := hone_of hone 0 f0 rfl
    obtain ⟨o1, k1⟩ := hone_of hone 1 f1 rfl
    obtain ⟨o2, k2⟩ := hone_of hone 2 f2 rfl
    obtain ⟨o3, k3⟩ := hone_of hone 3 f3 rfl
    obtain ⟨h0, h1, h2, h3⟩ := hi
    obtain ⟨z0, rfl, _⟩ := trod_i64 h0 (by simpa [Value.cells, o0, k0] using hx 0 f0 rfl)
    obtain ⟨z1, rfl, _⟩ := trod_i64 h1 (by simpa [Value.cells, o1, k1] using hx 1 f1 rfl)
    obtain ⟨z2, rfl, _⟩ := trod_i64 h2 (by simpa [Value.cells, o2, k2] using hx 2 f2 rfl)
    obtain ⟨z3, rfl, _⟩ := trod_i64 h3 (by simpa [Value.cells, o3, k3] using hx 3 f3 rfl)
    exact ⟨z0, z1, z2, z3, rfl⟩

/-- One element: an array of three integers. -/
theorem elem3 {e ei : TypeId} (he : P.underlying e = some (.array 3 ei)) (hei : P.underlying ei = some (.int .i64)) (hC : P.cellsOf e = 3) (hCi : P.cellsOf ei = 1) (cs : List Value) (n : Nat) (y : DataW H × List MemPlace)
    (h : DataW.trod enc P w base spare held n e cs = some y) : ∃ z0 z1 z2 : Int, cs = [.int .i64 z0, .int .i64 z1, .int .i64 z2] ∧ (-9223372036854775808 ≤ z0 ∧ z0 ≤ 9223372036854775807) ∧ (-9223372036854775808 ≤ z1 ∧ z1 ≤ 9223372036854775807) ∧ (-9223372036854775808 ≤ z2 ∧ z2 ≤ 9223372036854775807) := by
  obtain ⟨xs, m, _, _, hcl, hlen, hx⟩ := DataW.trod_array he h
  rw [hC] at hcl
  match cs, hcl, xs, hlen with
  | [v0, v1, v2], _, [y0, y1, y2], _ =>
    obtain ⟨z0, rfl, r0⟩ := trod_i64 hei (by simpa [hCi] using hx 0 (by omega))
    obtain ⟨z1, rfl, r1⟩ := trod_i64 hei (by simpa [hCi] using hx 1 (by omega))
    obtain ⟨z2, rfl, r2⟩ := trod_i64 hei (by simpa [hCi] using hx 2 (by omega))
    exact ⟨z0, z1, z2, rfl, r0, r1, r2⟩
/-- A struct of seven one-cell fields, by value. -/
theorem open_agg7 {r : Reach} {b0 : Nat} {t : TypeId} {f0 f1 f2 f3 f4 f5 f6 : Field} {v : Value} {d : DataW H} {p : List MemPlace} (hs : P.underlying t = some (.struct #[f0, f1, f2, f3, f4, f5, f6])) (hone : oneCellFields P #[f0, f1, f2, f3, f4, f5, f6] = true) (hC : P.cellsOf t = 7)
    (hv : Value.okWide P w r b0 t v) (h : DataW.Trod enc P w base spare held t v d p) :
    ∃ (v0 v1 v2 v3 v4 v5 v6 : Value) (y0 y1 y2 y3 y4 y5 y6 : DataW H × List MemPlace) (n : Nat), v = .agg #[v0, v1, v2, v3, v4, v5, v6] ∧ d = .agg [y0.1, y1.1, y2.1, y3.1, y4.1, y5.1, y6.1] ∧ DataW.trod enc P w base spare held n f0.type [v0] = some y0 ∧ DataW.trod enc P w base spare held n f1.type [v1] = some y1 ∧ DataW.trod enc P w base spare held n f2.type [v2] = some y2 ∧ DataW.trod enc P w base spare held n f3.type [v3] = some y3 ∧ DataW.trod enc P w base spare held n f4.type [v4] = some y4 ∧ DataW.trod enc P w base spare held n f5.type [v5] = some y5 ∧ DataW.trod enc P w base spare held n f6.type [v6] = some y6 := by
  obtain ⟨cs, rfl, hsz⟩ := okWide_struct hs hv
  obtain ⟨l⟩ := cs
  match l, hsz.trans hC with
  | [c0, c1, c2, c3, c4, c5, c6], _ =>
    obtain ⟨fuel, hf⟩ := h
    obtain ⟨xs, n, _, hx, _, hlen, hg⟩ := DataW.trod_struct hs hf
    match xs, hlen with
    | [y0, y1, y2, y3, y4, y5, y6], _ =>
      obtain ⟨o0, k0⟩ := hone_of hone 0 f0 rfl
      obtain ⟨o1, k1⟩ := hone_of hone 1 f1 rfl
      obtain ⟨o2, k2⟩ := hone_of hone 2 f2 rfl
      obtain ⟨o3, k3⟩ := hone_of hone 3 f3 rfl
      obtain ⟨o4, k4⟩ := hone_of hone 4 f4 rfl
      obtain ⟨o5, k5⟩ := hone_of hone 5 f5 rfl
      obtain ⟨o6, k6⟩ := hone_of hone 6 f6 rfl
      simp only [Prod.mk.injEq] at hx
      exact ⟨c0, c1, c2, c3, c4, c5, c6, y0, y1, y2, y3, y4, y5, y6, n, rfl, by simpa using hx.1, by simpa [Value.cells, o0, k0] using hg 0 f0 rfl, by simpa [Value.cells, o1, k1] using hg 1 f1 rfl, by simpa [Value.cells, o2, k2] using hg 2 f2 rfl, by simpa [Value.cells, o3, k3] using hg 3 f3 rfl, by simpa [Value.cells, o4, k4] using hg 4 f4 rfl, by simpa [Value.cells, o5, k5] using hg 5 f5 rfl, by simpa [Value.cells, o6, k6] using hg 6 f6 rfl⟩
end

end Go.Proofs.Ytadndipdkdgkbaa
