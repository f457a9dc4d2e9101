/- What a frame hands on of a slice of tokens, with the length of their texts. -/
import Derived.Test.YtapijdimajgflaaDoorZ31
import Derived.Test.YtapijdimajgflaaDoorRows
import Derived.Test.YtapijdimajgflaaDoorZ20
import Derived.Deep.Slices
import Derived.Deep.Fields
import Derived.Lib.SmallJoins
import Derived.OpenShut
namespace Go.Proofs.YtapijdimajgflaaDoor
open Go.RowKit Go.ChangeShapes Go.WideShapes Go.Joins Go.Deep
set_option linter.unusedVariables false

section
variable {H : Type} {enc : TypeId × Value → H} {P : Program} {w : World} {base : Nat} {spare : Nat → Bool} {held : Bool}

/-- A slice that came in, of whatever elements: 'hel' reads one of them; 'Good' ties it to its datum. -/
theorem open_ED {α : Type} [Inhabited α] {en : α → List Value} {k : Nat} (N : Enc en k) (Good : α → DataW H → Prop) {t e : TypeId} {fuel : Nat} {v : Value} {x : DataW H × List MemPlace} (ht : P.underlying t = some (.slice e)) (hce : P.cellsOf e = k)
    (hel : ∀ (cs : List Value) (n : Nat) (y : DataW H × List MemPlace), DataW.trod enc P w base spare held n e cs = some y → ∃ z, cs = en z ∧ Good z y.1)
    (h : DataW.trod enc P w base spare held fuel t [v] = some x) :
    ∃ A n c l, v = .slice A n c ∧ RdE en k w w.heap.size A n l ∧ n ≤ c ∧ c ≤ maxLen ∧ (x.1 = .nil ∧ n = 0 ∨ ∃ (T : Nat → α) (D : Nat → DataW H) (sp : List (DataW H)), x.1 = .slice ((List.range n).map D) sp ∧ l = (List.range n).map T ∧ ∀ i, i < n → Good (T i) (D i)) := by
  rcases open_slice ht h with ⟨h1, hx⟩ | ⟨a, len, cap, m, n', D, Pl, h1, _, hl, hcap, hm, hx0, hx⟩
  · simp only [List.cons.injEq, and_true] at h1
    exact ⟨none, 0, 0, [], h1, RdE.nil _ _ _ _ _, Nat.le_refl _, Nat.zero_le _, .inl ⟨by rw [hx], rfl⟩⟩
  · simp only [List.cons.injEq, and_true] at h1
    subst h1
    have hlm : len ≤ m := by rw [hm]; split <;> omega
    have key : ∀ i, i < len → ∃ z : α, (∀ j u, (en z)[j]? = some u → w.cell? ((a.add (i * k)).add j) = some u) ∧ Good z (D i) := by
      intro i hil
      obtain ⟨cs, h2, h3⟩ := hx i (by omega)
      rw [hce] at h2
      obtain ⟨z, rfl, hz⟩ := hel _ _ _ h3
      obtain ⟨_, hlen, hc⟩ := World.cells?_some h2
      refine ⟨z, fun j u hu => ?_, hz⟩
      have hj : j < (en z).length := (List.getElem?_eq_some_iff.1 hu).1
      rw [hc j (by omega), hu]
    obtain ⟨T, hT⟩ : ∃ T : Nat → α, ∀ i, i < len → (∀ j u, (en (T i))[j]? = some u → w.cell? ((a.add (i * k)).add j) = some u) ∧ Good (T i) (D i) :=
      ⟨fun i => if h : i < len then Classical.choose (key i h) else default, fun i h => by simp only [dif_pos h]; exact Classical.choose_spec (key i h)⟩
    refine ⟨some a, len, cap, (List.range len).map T, rfl, ⟨by simp, fun hn => ?_⟩, hl, hcap, .inr ⟨T, D, _, by rw [hx0], rfl, fun i hi => (hT i hi).2⟩⟩
    have hk0 : 0 < (en (T 0)).length := by rw [N.len]; exact N.pos
    have h0 := (hT 0 hn).1 0 _ (List.getElem?_eq_getElem hk0)
    obtain ⟨b0, off, spot⟩ := a
    have hspot : spot = none := by
      have := World.cell?_spot h0
      simpa [Addr.add] using this
    subst hspot
    refine ⟨b0, off, rfl, ?_, fun j t ht => ?_⟩
    · rw [add_plain', add_plain'] at h0
      exact World.block_lt_of_cell? w _ h0
    · rw [List.getElem?_map, Option.map_eq_some_iff] at ht
      obtain ⟨j', hj', rfl⟩ := ht
      obtain ⟨hlt, e⟩ := List.getElem?_eq_some_iff.1 hj'
      rw [List.getElem_range] at e
      subst e
      rw [List.length_range] at hlt
      intro q u hu
      have hh := (hT j hlt).1 q u hu
      rw [add_plain', add_plain'] at hh
      exact hh

instance : Inhabited Tk := ⟨⟨0, [], 0, 0⟩⟩

/-- One token, and the bulk of its datum. -/
theorem elemTok {e : TypeId} {f0 f1 f2 f3 : Field} (he : P.underlying e = some (.struct #[f0, f1, f2, f3])) (hone : oneCellFields P #[f0, f1, f2, f3] = true) (hC : P.cellsOf e = 4)
    (hi : P.underlying f0.type = some (.int .i64) ∧ P.underlying f1.type = some .string ∧ P.underlying f2.type = some (.int .i64) ∧ P.underlying f3.type = some (.int .i64)) (cs : List Value) (n : Nat) (y : DataW H × List MemPlace)
    (h : DataW.trod enc P w base spare held n e cs = some y) : ∃ z : Tk, cs = tokC z ∧ z.t.length + 1 ≤ Rows.uptoBulk y.1 := by
  obtain ⟨xs, m, _, hy, hcl, hlen, hx⟩ := DataW.trod_struct he h
  rw [hC] at hcl
  match cs, hcl, xs, hlen with
  | [v0, v1, v2, v3], _, [y0, y1, y2, y3], _ =>
    obtain ⟨o0, k0⟩ := hone_of hone 0 f0 rfl
    obtain ⟨o1, k1⟩ := hone_of hone 1 f1 rfl
    obtain ⟨o2, k2⟩ := hone_of hone 2 f2 rfl
    obtain ⟨o3, k3⟩ := hone_of hone 3 f3 rfl
    obtain ⟨h0, h1, h2, h3⟩ := hi
    obtain ⟨z0, e0, _⟩ := DataW.trod_int (cs := [v0]) h0 (by simpa [Value.cells, o0, k0] using hx 0 f0 rfl)
    obtain ⟨s, e1, g1, _⟩ := DataW.trod_string (cs := [v1]) h1 (by simpa [Value.cells, o1, k1] using hx 1 f1 rfl)
    obtain ⟨z2, e2, _⟩ := DataW.trod_int (cs := [v2]) h2 (by simpa [Value.cells, o2, k2] using hx 2 f2 rfl)
    obtain ⟨z3, e3, _⟩ := DataW.trod_int (cs := [v3]) h3 (by simpa [Value.cells, o3, k3] using hx 3 f3 rfl)
    simp only [List.cons.injEq, and_true] at e0 e1 e2 e3
    subst e0 e1 e2 e3
    refine ⟨⟨z0, strL s, z2, z3⟩, by unfold tokC; rw [strOf_strL], ?_⟩
    rw [hy]
    have hs : s.data.toList.length = s.size := by rw [Array.length_toList]; rfl
    simp only [List.map_cons, List.map_nil, Rows.uptoBulk, Rows.uptoBulkAll, g1, strL_len]
    omega
end

theorem strOf_size (l : List Int) : (strOfNums l).size = l.length := by
  have := congrArg List.length (strOfNums_data l)
  rw [List.length_map] at this
  rw [← this]
  rw [Array.length_toList]
  rfl

theorem bulk_len {H : Type} (T : Nat → Tk) (D : Nat → DataW H) : ∀ (is : List Nat), (∀ i ∈ is, (T i).t.length + 1 ≤ Rows.uptoBulk (D i)) → is.length ≤ Rows.uptoBulkAll (is.map D)
  | [], _ => by simp
  | i :: is, h => by
    have ih := bulk_len T D is (fun j hj => h j (List.mem_cons_of_mem _ hj))
    have hi := h i (by simp)
    simp only [List.map_cons, Rows.uptoBulkAll, List.length_cons]
    omega

theorem jn_bulk {H : Type} (T : Nat → Tk) (D : Nat → DataW H) : ∀ (is : List Nat), (∀ i ∈ is, (T i).t.length + 1 ≤ Rows.uptoBulk (D i)) → ∀ b, (jn b (txs (is.map T))).length ≤ Rows.uptoBulkAll (is.map D)
  | [], _, b => by simp [txs, jn]
  | i :: is, h, b => by
    have ih := jn_bulk T D is (fun j hj => h j (List.mem_cons_of_mem _ hj))
    have hi := h i (by simp)
    simp only [List.map_cons, Rows.uptoBulkAll]
    rw [txs]
    split
    · have := ih b; omega
    · rw [jn, List.length_append, List.length_append, strL_len, strOf_size]
      have := ih true
      split
      · simp only [List.length_singleton]; omega
      · simp only [List.length_nil]; omega

end Go.Proofs.YtapijdimajgflaaDoor
