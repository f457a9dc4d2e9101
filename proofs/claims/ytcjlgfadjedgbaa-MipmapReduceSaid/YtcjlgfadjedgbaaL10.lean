/- The reference's average of mipmaps, the states of its Reduce. -/
import Derived.Test.YtcjlgfadjedgbaaL3
import Derived.Test.YtcjlgfadjedgbaaImgs
import Derived.Test.YtcjlgfadjedgbaaTreeC
namespace Go.Proofs.Ytcjlgfadjedgbaa
open Go.RowKit Go.Sort Go.ChangeShapes Go.WideShapes
set_option linter.unusedVariables false

theorem raverage_b (a b c d : Int) (w : World) (ha : -536870911 ≤ a ∧ a ≤ 536870911) (hb : -536870911 ≤ b ∧ b ≤ 536870911) (hc : -536870911 ≤ c ∧ c ≤ 536870911) (hd : -536870911 ≤ d ∧ d ≤ 536870911) :
    Calls Try.prog 40 #[.int .i64 a, .int .i64 b, .int .i64 c, .int .i64 d] w fun e w' => e = .returned (.int .i64 (rda (a + b + c + d) 4)) ∧ Below w.heap.size w w' := by
  have BB : Below w.heap.size w w := Below.refl _ _
  obtain ⟨a1, a2⟩ := ha
  obtain ⟨b1, b2⟩ := hb
  obtain ⟨c1, c2⟩ := hc
  obtain ⟨d1, d2⟩ := hd
  go_enter Try.func40, Try.ntmps40
  go_wp2_with (first | (go_at_call 22; refine (rrounddiv_b _ _ _).mono ?_; rintro _ _ ⟨rfl, B⟩; replace BB := bon BB B))
  go_ret
  exact ⟨rfl, BB⟩

section
variable {P : Program} {ops : Array Oper} {rest : List Oper} {o : Oper} {a : Act} {Q : Exit → Act → World → Prop}
/-- 'append(s, xs...)' onto an owned slice: another block than its own stays. -/
theorem wpList_appG (W : World) (hgd : o.guard = none) (s x : Operand) (t : TypeId) (ho : o.op = .call { callee := .builtin .append, args := #[s, x], argTypes := #[t, t] })
    {e : TypeId} {k : IntKind} {bytes : Nat} (E : Elem P t e k bytes) {base n c : Nat} {A : Option Addr} {l : List Int} (own : Own W base e k A n c l) (hs : a.eval s = .slice A n c)
    {B m d : Nat} {A2 : Option Addr} {l2 : List Int} (R : Rd W B k A2 m l2) (hx : a.eval x = .slice A2 m d) (hm : 0 < m) (h63 : n + m ≤ maxLen) (hb : (n + m) * bytes ≤ 140737488355328)
    (h : ∀ A' c' W1, Own W1 base e k A' (n + m) c' (l ++ l2) → W.grownBy W1 (Value.slice A n c).ownBlock → wpList P ops Q rest (a.put o.dst (.slice A' (n + m) c')) W1) : wpList P ops Q (o :: rest) a W := by
  refine wpList_plain hgd fun K hK => ?_
  obtain ⟨ht, i, hi, hz, hsize, hby⟩ := E
  have hrng : ∀ x ∈ l ++ l2, k.min ≤ x ∧ x ≤ k.max := by
    intro x hx
    rcases List.mem_append.1 hx with hx | hx
    · exact own.2.1 x hx
    · exact R.2.1 x hx
  obtain ⟨b, off, rfl, _, hc⟩ := R.2.2 hm
  obtain ⟨v', w', hrun, h2, h3, _, _⟩ := run_append_own_at (P := P) W base t o.type e i (.int k 0) 1 bytes ht hi hz hsize hby rfl (by decide) _ n _ own.1 ⟨b, off, none⟩ m d (l2.map (Value.int k)) (by simp [R.1])
    (fun j u hu => by
      rw [List.getElem?_map, Option.map_eq_some_iff] at hu
      obtain ⟨x, hx, rfl⟩ := hu
      rw [add_plain']
      exact hc j x hx) (oneCell_ints k l2) h63 hb own.2.2
  obtain ⟨A', c', rfl⟩ := form_of_own h2
  unfold Oper.wp execOp
  simp only [ho, resolve, invoke, builtin, Sem.run_bind, Sem.run_pure, Result.andThen_ok, List.map_toArray, List.map_cons, List.map_nil, hs, hx]
  rw [hrun]
  exact hK _ _ (h _ _ _ ⟨by simpa using h2, hrng, Nat.le_trans own.2.2 h3.size⟩ h3)
end

section
variable {P : Program} {ops : Array Oper} {Q : Exit → Act → World → Prop} {rest : List Oper} {o : Oper} {a : Act} {W : World}
/-- 'max(x, y)' of ints. -/
theorem wpList_max (hg : o.guard = none) (x y : Operand) (ts : Array TypeId) (ho : o.op = .call { callee := .builtin .max, args := #[x, y], argTypes := ts }) {u v z : Int} (hx : a.eval x = .int .i64 u) (hy : a.eval y = .int .i64 v) (hz : (if u < v then v else u) = z)
    (H : wpList P ops Q rest (a.put o.dst (.int .i64 z)) W) : wpList P ops Q (o :: rest) a W := by
  refine wpList_plain hg fun K hK => ?_
  unfold Oper.wp execOp
  have e : (Builtin.max_ ts o.type #[.int .i64 u, .int .i64 v]).run P W = .ok (.int .i64 z) W := by simp [Builtin.max_, Builtin.max2, hz]
  simp only [ho, resolve, invoke, builtin, Sem.run_bind, Sem.run_pure, Result.andThen_ok, List.map_toArray, List.map_cons, List.map_nil, hx, hy]
  rw [e]
  exact hK _ _ H
end

theorem own_ne {W : World} {base e n c b : Nat} {k : IntKind} {A : Option Addr} {l : List Int} (h : Own W base e k A n c l) (hb : W.heap.size ≤ b) : some b ≠ (Value.slice A n c).ownBlock := fun he => by
  have := (h.1.lt b he.symm).2
  omega
theorem own_ne' {W : World} {base e n c b : Nat} {k : IntKind} {A : Option Addr} {l : List Int} (h : Own W base e k A n c l) (hb : b < base) : some b ≠ (Value.slice A n c).ownBlock := fun he => by
  have := (h.1.lt b he.symm).1
  omega
theorem IAt.past' {W V : World} {b n c : Nat} {f wd ht : Int} {A : Option Addr} {row : Option Nat} (h : IAt W b f wd ht A n c) (hg : W.grownBy V row) (hne : some b ≠ row) : IAt V b f wd ht A n c :=
  ⟨hg.cell h.1 hne, hg.cell h.2.1 hne, hg.cell h.2.2.1 hne, hg.cell h.2.2.2 hne⟩
theorem VecAt.past' {W V : World} {b : Nat} {x0 x1 x2 x3 : Int} {row : Option Nat} (h : VecAt W b x0 x1 x2 x3) (hg : W.grownBy V row) (hne : some b ≠ row) : VecAt V b x0 x1 x2 x3 :=
  ⟨hg.cell h.1 hne, hg.cell h.2.1 hne, hg.cell h.2.2.1 hne, hg.cell h.2.2.2 hne⟩
theorem IBox.past' {W V : World} {b n c : Nat} {f wd ht : Int} {A : Option Addr} {row : Option Nat} (h : IBox W b f wd ht A n c) (hg : W.grownBy V row) (hne : some b ≠ row) : IBox V b f wd ht A n c :=
  ⟨h.1.past' hg hne, fun i => (World.frozen?_of_block (a := ⟨b, i, none⟩) (hg.block b h.lt hne)).trans (h.2 i)⟩
theorem below_grown {W V : World} {B : Nat} {row : Option Nat} (hB : B ≤ W.heap.size) (hg : W.grownBy V row) (h : ∀ k, row = some k → B ≤ k) : Below B W V :=
  ⟨hg.os, hg.tape, hg.output, hg.size, fun k hk => hg.block k (by omega) fun e => by have := h k e.symm; omega⟩

theorem al1 {α : Type} {x0 : α} {p : α → Prop} (h0 : p x0) : ∀ e ∈ [x0], p e := by
  intro e he
  simp only [List.mem_cons, List.not_mem_nil, or_false] at he
  subst he
  exact h0

theorem al2 {α : Type} {x0 x1 : α} {p : α → Prop} (h0 : p x0) (h1 : p x1) : ∀ e ∈ [x0, x1], p e := by
  intro e he
  simp only [List.mem_cons, List.not_mem_nil, or_false] at he
  rcases he with rfl | rfl
  · exact h0
  · exact h1

theorem al3 {α : Type} {x0 x1 x2 : α} {p : α → Prop} (h0 : p x0) (h1 : p x1) (h2 : p x2) : ∀ e ∈ [x0, x1, x2], p e := by
  intro e he
  simp only [List.mem_cons, List.not_mem_nil, or_false] at he
  rcases he with rfl | rfl | rfl
  · exact h0
  · exact h1
  · exact h2

theorem al4 {α : Type} {x0 x1 x2 x3 : α} {p : α → Prop} (h0 : p x0) (h1 : p x1) (h2 : p x2) (h3 : p x3) : ∀ e ∈ [x0, x1, x2, x3], p e := by
  intro e he
  simp only [List.mem_cons, List.not_mem_nil, or_false] at he
  rcases he with rfl | rfl | rfl | rfl
  · exact h0
  · exact h1
  · exact h2
  · exact h3

theorem al5 {α : Type} {x0 x1 x2 x3 x4 : α} {p : α → Prop} (h0 : p x0) (h1 : p x1) (h2 : p x2) (h3 : p x3) (h4 : p x4) : ∀ e ∈ [x0, x1, x2, x3, x4], p e := by
  intro e he
  simp only [List.mem_cons, List.not_mem_nil, or_false] at he
  rcases he with rfl | rfl | rfl | rfl | rfl
  · exact h0
  · exact h1
  · exact h2
  · exact h3
  · exact h4

/-- The states of a region. -/
def raDag : Dag := ⟨[[], [13], [23], [24], [13, 22], [13, 23], [13, 24], [23, 24], [13, 22, 23], [13, 22, 24], [13, 23, 24], [13, 22, 23, 24], [13, 22, 23, 24, 25], [13, 22, 23, 24, 25, 26]], [[(13, 1), (23, 2), (24, 3)], [(22, 4), (23, 5), (24, 6)], [(13, 5), (24, 7)], [(13, 6), (23, 7)], [(23, 8), (24, 9)], [(22, 8), (24, 10)], [(22, 9), (23, 10)], [(13, 10)], [(24, 11)], [(23, 11)], [(22, 11)], [(25, 12)], [(26, 13)], []], [6, 5, 5, 5, 4, 4, 4, 4, 3, 3, 3, 2, 1, 0]⟩

def raR (a0 : Act) (sz : Nat) (f wd ht : Int) (A : Option Addr) (n c : Nat) (X Y : Nat) (r s : Int) (va vb vc vd : Nat → Int) : Act :=
  (((((((((((((((((((((a0.put (some 65) (.agg #[.int .i64 f, .int .i64 wd, .int .i64 ht, .slice A n c])).put (some 66) (.int .i64 X)).put (some 67) (.int .i64 (2 * (X : Int)))).put (some 68) (.pointer (some ⟨sz, 1, none⟩))).put (some 69) (.int .i64 wd)).put (some 70) (.int .i64 (wd - 1))).put (some 71) (.int .i64 (2 * (X : Int)))).put (some 72) (.int .i64 Y)).put (some 73) (.int .i64 (2 * (Y : Int)))).put (some 74) (.pointer (some ⟨sz, 2, none⟩))).put (some 75) (.int .i64 ht)).put (some 76) (.int .i64 (ht - 1))).put (some 77) (.int .i64 (2 * (Y : Int)))).put (some 79) (.agg #[.int .i64 f, .int .i64 wd, .int .i64 ht, .slice A n c])).put (some 80) (.int .i64 r)).put (some 81) (.int .i64 Y)).put (some 82) (.int .i64 (2 * (Y : Int)))).put (some 83) (.pointer (some ⟨sz, 2, none⟩))).put (some 84) (.int .i64 ht)).put (some 85) (.int .i64 (ht - 1))).put (some 86) (.int .i64 (2 * (Y : Int))))

@[reducible] def raSt (w0 : World) (sz : Nat) (f wd ht : Int) (A : Option Addr) (n c : Nat) (X Y : Nat) (r s : Int) (va vb vc vd : Nat → Int) (k : Nat) (a0 a' : Act) (W : World) : Prop := match k with
  | 0 => ∃ b8 b9 : Nat, a' = (raR a0 sz f wd ht A n c X Y r s va vb vc vd) ∧ Below w0.heap.size w0 W
  | 1 => ∃ b8 b9 : Nat, a' = ((raR a0 sz f wd ht A n c X Y r s va vb vc vd).put (some 78) (.agg #[.int .i64 (va 0), .int .i64 (va 1), .int .i64 (va 2), .int .i64 (va 3)])) ∧ Below w0.heap.size w0 W
  | 2 => ∃ b8 b9 : Nat, a' = ((raR a0 sz f wd ht A n c X Y r s va vb vc vd).put (some 8) (.pointer (some ⟨b8, 0, none⟩))) ∧ Below w0.heap.size w0 W ∧ VBox W b8 0 0 0 0 ∧ w0.heap.size ≤ b8
  | 3 => ∃ b8 b9 : Nat, a' = ((raR a0 sz f wd ht A n c X Y r s va vb vc vd).put (some 9) (.pointer (some ⟨b9, 0, none⟩))) ∧ Below w0.heap.size w0 W ∧ VBox W b9 0 0 0 0 ∧ w0.heap.size ≤ b9
  | 4 => ∃ b8 b9 : Nat, a' = (((raR a0 sz f wd ht A n c X Y r s va vb vc vd).put (some 78) (.agg #[.int .i64 (va 0), .int .i64 (va 1), .int .i64 (va 2), .int .i64 (va 3)])).put (some 87) (.agg #[.int .i64 (vb 0), .int .i64 (vb 1), .int .i64 (vb 2), .int .i64 (vb 3)])) ∧ Below w0.heap.size w0 W
  | 5 => ∃ b8 b9 : Nat, a' = (((raR a0 sz f wd ht A n c X Y r s va vb vc vd).put (some 78) (.agg #[.int .i64 (va 0), .int .i64 (va 1), .int .i64 (va 2), .int .i64 (va 3)])).put (some 8) (.pointer (some ⟨b8, 0, none⟩))) ∧ Below w0.heap.size w0 W ∧ VBox W b8 0 0 0 0 ∧ w0.heap.size ≤ b8
  | 6 => ∃ b8 b9 : Nat, a' = (((raR a0 sz f wd ht A n c X Y r s va vb vc vd).put (some 78) (.agg #[.int .i64 (va 0), .int .i64 (va 1), .int .i64 (va 2), .int .i64 (va 3)])).put (some 9) (.pointer (some ⟨b9, 0, none⟩))) ∧ Below w0.heap.size w0 W ∧ VBox W b9 0 0 0 0 ∧ w0.heap.size ≤ b9
  | 7 => ∃ b8 b9 : Nat, a' = (((raR a0 sz f wd ht A n c X Y r s va vb vc vd).put (some 8) (.pointer (some ⟨b8, 0, none⟩))).put (some 9) (.pointer (some ⟨b9, 0, none⟩))) ∧ Below w0.heap.size w0 W ∧ VBox W b8 0 0 0 0 ∧ VBox W b9 0 0 0 0 ∧ w0.heap.size ≤ b8 ∧ w0.heap.size ≤ b9 ∧ b8 ≠ b9
  | 8 => ∃ b8 b9 : Nat, a' = ((((raR a0 sz f wd ht A n c X Y r s va vb vc vd).put (some 78) (.agg #[.int .i64 (va 0), .int .i64 (va 1), .int .i64 (va 2), .int .i64 (va 3)])).put (some 87) (.agg #[.int .i64 (vb 0), .int .i64 (vb 1), .int .i64 (vb 2), .int .i64 (vb 3)])).put (some 8) (.pointer (some ⟨b8, 0, none⟩))) ∧ Below w0.heap.size w0 W ∧ VBox W b8 0 0 0 0 ∧ w0.heap.size ≤ b8
  | 9 => ∃ b8 b9 : Nat, a' = ((((raR a0 sz f wd ht A n c X Y r s va vb vc vd).put (some 78) (.agg #[.int .i64 (va 0), .int .i64 (va 1), .int .i64 (va 2), .int .i64 (va 3)])).put (some 87) (.agg #[.int .i64 (vb 0), .int .i64 (vb 1), .int .i64 (vb 2), .int .i64 (vb 3)])).put (some 9) (.pointer (some ⟨b9, 0, none⟩))) ∧ Below w0.heap.size w0 W ∧ VBox W b9 0 0 0 0 ∧ w0.heap.size ≤ b9
  | 10 => ∃ b8 b9 : Nat, a' = ((((raR a0 sz f wd ht A n c X Y r s va vb vc vd).put (some 78) (.agg #[.int .i64 (va 0), .int .i64 (va 1), .int .i64 (va 2), .int .i64 (va 3)])).put (some 8) (.pointer (some ⟨b8, 0, none⟩))).put (some 9) (.pointer (some ⟨b9, 0, none⟩))) ∧ Below w0.heap.size w0 W ∧ VBox W b8 0 0 0 0 ∧ VBox W b9 0 0 0 0 ∧ w0.heap.size ≤ b8 ∧ w0.heap.size ≤ b9 ∧ b8 ≠ b9
  | 11 => ∃ b8 b9 : Nat, a' = (((((raR a0 sz f wd ht A n c X Y r s va vb vc vd).put (some 78) (.agg #[.int .i64 (va 0), .int .i64 (va 1), .int .i64 (va 2), .int .i64 (va 3)])).put (some 87) (.agg #[.int .i64 (vb 0), .int .i64 (vb 1), .int .i64 (vb 2), .int .i64 (vb 3)])).put (some 8) (.pointer (some ⟨b8, 0, none⟩))).put (some 9) (.pointer (some ⟨b9, 0, none⟩))) ∧ Below w0.heap.size w0 W ∧ VBox W b8 0 0 0 0 ∧ VBox W b9 0 0 0 0 ∧ w0.heap.size ≤ b8 ∧ w0.heap.size ≤ b9 ∧ b8 ≠ b9
  | 12 => ∃ b8 b9 : Nat, a' = (((((raR a0 sz f wd ht A n c X Y r s va vb vc vd).put (some 78) (.agg #[.int .i64 (va 0), .int .i64 (va 1), .int .i64 (va 2), .int .i64 (va 3)])).put (some 87) (.agg #[.int .i64 (vb 0), .int .i64 (vb 1), .int .i64 (vb 2), .int .i64 (vb 3)])).put (some 8) (.pointer (some ⟨b8, 0, none⟩))).put (some 9) (.pointer (some ⟨b9, 0, none⟩))) ∧ Below w0.heap.size w0 W ∧ VBox W b8 (va 0) (va 1) (va 2) (va 3) ∧ VBox W b9 0 0 0 0 ∧ w0.heap.size ≤ b8 ∧ w0.heap.size ≤ b9 ∧ b8 ≠ b9
  | 13 => ∃ b8 b9 : Nat, a' = (((((raR a0 sz f wd ht A n c X Y r s va vb vc vd).put (some 78) (.agg #[.int .i64 (va 0), .int .i64 (va 1), .int .i64 (va 2), .int .i64 (va 3)])).put (some 87) (.agg #[.int .i64 (vb 0), .int .i64 (vb 1), .int .i64 (vb 2), .int .i64 (vb 3)])).put (some 8) (.pointer (some ⟨b8, 0, none⟩))).put (some 9) (.pointer (some ⟨b9, 0, none⟩))) ∧ Below w0.heap.size w0 W ∧ VBox W b8 (va 0) (va 1) (va 2) (va 3) ∧ VBox W b9 (vb 0) (vb 1) (vb 2) (vb 3) ∧ w0.heap.size ≤ b8 ∧ w0.heap.size ≤ b9 ∧ b8 ≠ b9
  | _ => False

/-- The states of a region. -/
def rbDag : Dag := ⟨[[], [8], [13], [14], [8, 12], [8, 13], [8, 14], [13, 14], [8, 12, 13], [8, 12, 14], [8, 13, 14], [8, 12, 13, 14], [8, 12, 13, 14, 15], [8, 12, 13, 14, 15, 16]], [[(8, 1), (13, 2), (14, 3)], [(12, 4), (13, 5), (14, 6)], [(8, 5), (14, 7)], [(8, 6), (13, 7)], [(13, 8), (14, 9)], [(12, 8), (14, 10)], [(12, 9), (13, 10)], [(8, 10)], [(14, 11)], [(13, 11)], [(12, 11)], [(15, 12)], [(16, 13)], []], [6, 5, 5, 5, 4, 4, 4, 4, 3, 3, 3, 2, 1, 0]⟩

def rbR (a0 : Act) (sz : Nat) (f wd ht : Int) (A : Option Addr) (n c : Nat) (X Y : Nat) (r s : Int) (va vb vc vd : Nat → Int) : Act :=
  (((((((((((a0.put (some 88) (.agg #[.int .i64 f, .int .i64 wd, .int .i64 ht, .slice A n c])).put (some 89) (.int .i64 X)).put (some 90) (.int .i64 (2 * (X : Int)))).put (some 91) (.pointer (some ⟨sz, 1, none⟩))).put (some 92) (.int .i64 wd)).put (some 93) (.int .i64 (wd - 1))).put (some 94) (.int .i64 (2 * (X : Int)))).put (some 95) (.int .i64 s)).put (some 97) (.agg #[.int .i64 f, .int .i64 wd, .int .i64 ht, .slice A n c])).put (some 98) (.int .i64 r)).put (some 99) (.int .i64 s))

@[reducible] def rbSt (w0 : World) (sz : Nat) (f wd ht : Int) (A : Option Addr) (n c : Nat) (X Y : Nat) (r s : Int) (va vb vc vd : Nat → Int) (k : Nat) (a0 a' : Act) (W : World) : Prop := match k with
  | 0 => ∃ b10 b11 : Nat, a' = (rbR a0 sz f wd ht A n c X Y r s va vb vc vd) ∧ Below w0.heap.size w0 W
  | 1 => ∃ b10 b11 : Nat, a' = ((rbR a0 sz f wd ht A n c X Y r s va vb vc vd).put (some 96) (.agg #[.int .i64 (vc 0), .int .i64 (vc 1), .int .i64 (vc 2), .int .i64 (vc 3)])) ∧ Below w0.heap.size w0 W
  | 2 => ∃ b10 b11 : Nat, a' = ((rbR a0 sz f wd ht A n c X Y r s va vb vc vd).put (some 10) (.pointer (some ⟨b10, 0, none⟩))) ∧ Below w0.heap.size w0 W ∧ VBox W b10 0 0 0 0 ∧ w0.heap.size ≤ b10
  | 3 => ∃ b10 b11 : Nat, a' = ((rbR a0 sz f wd ht A n c X Y r s va vb vc vd).put (some 11) (.pointer (some ⟨b11, 0, none⟩))) ∧ Below w0.heap.size w0 W ∧ VBox W b11 0 0 0 0 ∧ w0.heap.size ≤ b11
  | 4 => ∃ b10 b11 : Nat, a' = (((rbR a0 sz f wd ht A n c X Y r s va vb vc vd).put (some 96) (.agg #[.int .i64 (vc 0), .int .i64 (vc 1), .int .i64 (vc 2), .int .i64 (vc 3)])).put (some 100) (.agg #[.int .i64 (vd 0), .int .i64 (vd 1), .int .i64 (vd 2), .int .i64 (vd 3)])) ∧ Below w0.heap.size w0 W
  | 5 => ∃ b10 b11 : Nat, a' = (((rbR a0 sz f wd ht A n c X Y r s va vb vc vd).put (some 96) (.agg #[.int .i64 (vc 0), .int .i64 (vc 1), .int .i64 (vc 2), .int .i64 (vc 3)])).put (some 10) (.pointer (some ⟨b10, 0, none⟩))) ∧ Below w0.heap.size w0 W ∧ VBox W b10 0 0 0 0 ∧ w0.heap.size ≤ b10
  | 6 => ∃ b10 b11 : Nat, a' = (((rbR a0 sz f wd ht A n c X Y r s va vb vc vd).put (some 96) (.agg #[.int .i64 (vc 0), .int .i64 (vc 1), .int .i64 (vc 2), .int .i64 (vc 3)])).put (some 11) (.pointer (some ⟨b11, 0, none⟩))) ∧ Below w0.heap.size w0 W ∧ VBox W b11 0 0 0 0 ∧ w0.heap.size ≤ b11
  | 7 => ∃ b10 b11 : Nat, a' = (((rbR a0 sz f wd ht A n c X Y r s va vb vc vd).put (some 10) (.pointer (some ⟨b10, 0, none⟩))).put (some 11) (.pointer (some ⟨b11, 0, none⟩))) ∧ Below w0.heap.size w0 W ∧ VBox W b10 0 0 0 0 ∧ VBox W b11 0 0 0 0 ∧ w0.heap.size ≤ b10 ∧ w0.heap.size ≤ b11 ∧ b10 ≠ b11
  | 8 => ∃ b10 b11 : Nat, a' = ((((rbR a0 sz f wd ht A n c X Y r s va vb vc vd).put (some 96) (.agg #[.int .i64 (vc 0), .int .i64 (vc 1), .int .i64 (vc 2), .int .i64 (vc 3)])).put (some 100) (.agg #[.int .i64 (vd 0), .int .i64 (vd 1), .int .i64 (vd 2), .int .i64 (vd 3)])).put (some 10) (.pointer (some ⟨b10, 0, none⟩))) ∧ Below w0.heap.size w0 W ∧ VBox W b10 0 0 0 0 ∧ w0.heap.size ≤ b10
  | 9 => ∃ b10 b11 : Nat, a' = ((((rbR a0 sz f wd ht A n c X Y r s va vb vc vd).put (some 96) (.agg #[.int .i64 (vc 0), .int .i64 (vc 1), .int .i64 (vc 2), .int .i64 (vc 3)])).put (some 100) (.agg #[.int .i64 (vd 0), .int .i64 (vd 1), .int .i64 (vd 2), .int .i64 (vd 3)])).put (some 11) (.pointer (some ⟨b11, 0, none⟩))) ∧ Below w0.heap.size w0 W ∧ VBox W b11 0 0 0 0 ∧ w0.heap.size ≤ b11
  | 10 => ∃ b10 b11 : Nat, a' = ((((rbR a0 sz f wd ht A n c X Y r s va vb vc vd).put (some 96) (.agg #[.int .i64 (vc 0), .int .i64 (vc 1), .int .i64 (vc 2), .int .i64 (vc 3)])).put (some 10) (.pointer (some ⟨b10, 0, none⟩))).put (some 11) (.pointer (some ⟨b11, 0, none⟩))) ∧ Below w0.heap.size w0 W ∧ VBox W b10 0 0 0 0 ∧ VBox W b11 0 0 0 0 ∧ w0.heap.size ≤ b10 ∧ w0.heap.size ≤ b11 ∧ b10 ≠ b11
  | 11 => ∃ b10 b11 : Nat, a' = (((((rbR a0 sz f wd ht A n c X Y r s va vb vc vd).put (some 96) (.agg #[.int .i64 (vc 0), .int .i64 (vc 1), .int .i64 (vc 2), .int .i64 (vc 3)])).put (some 100) (.agg #[.int .i64 (vd 0), .int .i64 (vd 1), .int .i64 (vd 2), .int .i64 (vd 3)])).put (some 10) (.pointer (some ⟨b10, 0, none⟩))).put (some 11) (.pointer (some ⟨b11, 0, none⟩))) ∧ Below w0.heap.size w0 W ∧ VBox W b10 0 0 0 0 ∧ VBox W b11 0 0 0 0 ∧ w0.heap.size ≤ b10 ∧ w0.heap.size ≤ b11 ∧ b10 ≠ b11
  | 12 => ∃ b10 b11 : Nat, a' = (((((rbR a0 sz f wd ht A n c X Y r s va vb vc vd).put (some 96) (.agg #[.int .i64 (vc 0), .int .i64 (vc 1), .int .i64 (vc 2), .int .i64 (vc 3)])).put (some 100) (.agg #[.int .i64 (vd 0), .int .i64 (vd 1), .int .i64 (vd 2), .int .i64 (vd 3)])).put (some 10) (.pointer (some ⟨b10, 0, none⟩))).put (some 11) (.pointer (some ⟨b11, 0, none⟩))) ∧ Below w0.heap.size w0 W ∧ VBox W b10 (vc 0) (vc 1) (vc 2) (vc 3) ∧ VBox W b11 0 0 0 0 ∧ w0.heap.size ≤ b10 ∧ w0.heap.size ≤ b11 ∧ b10 ≠ b11
  | 13 => ∃ b10 b11 : Nat, a' = (((((rbR a0 sz f wd ht A n c X Y r s va vb vc vd).put (some 96) (.agg #[.int .i64 (vc 0), .int .i64 (vc 1), .int .i64 (vc 2), .int .i64 (vc 3)])).put (some 100) (.agg #[.int .i64 (vd 0), .int .i64 (vd 1), .int .i64 (vd 2), .int .i64 (vd 3)])).put (some 10) (.pointer (some ⟨b10, 0, none⟩))).put (some 11) (.pointer (some ⟨b11, 0, none⟩))) ∧ Below w0.heap.size w0 W ∧ VBox W b10 (vc 0) (vc 1) (vc 2) (vc 3) ∧ VBox W b11 (vd 0) (vd 1) (vd 2) (vd 3) ∧ w0.heap.size ≤ b10 ∧ w0.heap.size ≤ b11 ∧ b10 ≠ b11
  | _ => False

/-- The states of a region. -/
def rcDag : Dag := ⟨[[], [8], [37], [8, 17], [8, 37], [8, 17, 26], [8, 17, 37], [8, 17, 26, 35], [8, 17, 26, 37], [8, 17, 26, 35, 36], [8, 17, 26, 35, 37], [8, 17, 26, 35, 36, 37], [8, 17, 26, 35, 36, 37, 38]], [[(8, 1), (37, 2)], [(17, 3), (37, 4)], [(8, 4)], [(26, 5), (37, 6)], [(17, 6)], [(35, 7), (37, 8)], [(26, 8)], [(36, 9), (37, 10)], [(35, 10)], [(37, 11)], [(36, 11)], [(38, 12)], []], [7, 6, 6, 5, 5, 4, 4, 3, 3, 2, 2, 1, 0]⟩

def rcR (a0 : Act) (b8 b9 b10 b11 : Nat) (va vb vc vd av : Nat → Int) : Act :=
  ((((((((((((((((((((((((((((((((a0.put (some 101) (.pointer (some ⟨b8, 0, none⟩))).put (some 102) (.int .i64 (va 0))).put (some 103) (.pointer (some ⟨b9, 0, none⟩))).put (some 104) (.int .i64 (vb 0))).put (some 105) (.pointer (some ⟨b10, 0, none⟩))).put (some 106) (.int .i64 (vc 0))).put (some 107) (.pointer (some ⟨b11, 0, none⟩))).put (some 108) (.int .i64 (vd 0))).put (some 110) (.pointer (some ⟨b8, 1, none⟩))).put (some 111) (.int .i64 (va 1))).put (some 112) (.pointer (some ⟨b9, 1, none⟩))).put (some 113) (.int .i64 (vb 1))).put (some 114) (.pointer (some ⟨b10, 1, none⟩))).put (some 115) (.int .i64 (vc 1))).put (some 116) (.pointer (some ⟨b11, 1, none⟩))).put (some 117) (.int .i64 (vd 1))).put (some 119) (.pointer (some ⟨b8, 2, none⟩))).put (some 120) (.int .i64 (va 2))).put (some 121) (.pointer (some ⟨b9, 2, none⟩))).put (some 122) (.int .i64 (vb 2))).put (some 123) (.pointer (some ⟨b10, 2, none⟩))).put (some 124) (.int .i64 (vc 2))).put (some 125) (.pointer (some ⟨b11, 2, none⟩))).put (some 126) (.int .i64 (vd 2))).put (some 128) (.pointer (some ⟨b8, 3, none⟩))).put (some 129) (.int .i64 (va 3))).put (some 130) (.pointer (some ⟨b9, 3, none⟩))).put (some 131) (.int .i64 (vb 3))).put (some 132) (.pointer (some ⟨b10, 3, none⟩))).put (some 133) (.int .i64 (vc 3))).put (some 134) (.pointer (some ⟨b11, 3, none⟩))).put (some 135) (.int .i64 (vd 3)))

@[reducible] def rcSt (w0 : World) (b8 b9 b10 b11 : Nat) (va vb vc vd av : Nat → Int) (k : Nat) (a0 a' : Act) (W : World) : Prop := match k with
  | 0 => ∃ b12 : Nat, a' = (rcR a0 b8 b9 b10 b11 va vb vc vd av) ∧ Below w0.heap.size w0 W
  | 1 => ∃ b12 : Nat, a' = ((rcR a0 b8 b9 b10 b11 va vb vc vd av).put (some 109) (.int .i64 (av 0))) ∧ Below w0.heap.size w0 W
  | 2 => ∃ b12 : Nat, a' = ((rcR a0 b8 b9 b10 b11 va vb vc vd av).put (some 12) (.pointer (some ⟨b12, 0, none⟩))) ∧ Below w0.heap.size w0 W ∧ VBox W b12 0 0 0 0 ∧ w0.heap.size ≤ b12
  | 3 => ∃ b12 : Nat, a' = (((rcR a0 b8 b9 b10 b11 va vb vc vd av).put (some 109) (.int .i64 (av 0))).put (some 118) (.int .i64 (av 1))) ∧ Below w0.heap.size w0 W
  | 4 => ∃ b12 : Nat, a' = (((rcR a0 b8 b9 b10 b11 va vb vc vd av).put (some 109) (.int .i64 (av 0))).put (some 12) (.pointer (some ⟨b12, 0, none⟩))) ∧ Below w0.heap.size w0 W ∧ VBox W b12 0 0 0 0 ∧ w0.heap.size ≤ b12
  | 5 => ∃ b12 : Nat, a' = ((((rcR a0 b8 b9 b10 b11 va vb vc vd av).put (some 109) (.int .i64 (av 0))).put (some 118) (.int .i64 (av 1))).put (some 127) (.int .i64 (av 2))) ∧ Below w0.heap.size w0 W
  | 6 => ∃ b12 : Nat, a' = ((((rcR a0 b8 b9 b10 b11 va vb vc vd av).put (some 109) (.int .i64 (av 0))).put (some 118) (.int .i64 (av 1))).put (some 12) (.pointer (some ⟨b12, 0, none⟩))) ∧ Below w0.heap.size w0 W ∧ VBox W b12 0 0 0 0 ∧ w0.heap.size ≤ b12
  | 7 => ∃ b12 : Nat, a' = (((((rcR a0 b8 b9 b10 b11 va vb vc vd av).put (some 109) (.int .i64 (av 0))).put (some 118) (.int .i64 (av 1))).put (some 127) (.int .i64 (av 2))).put (some 136) (.int .i64 (av 3))) ∧ Below w0.heap.size w0 W
  | 8 => ∃ b12 : Nat, a' = (((((rcR a0 b8 b9 b10 b11 va vb vc vd av).put (some 109) (.int .i64 (av 0))).put (some 118) (.int .i64 (av 1))).put (some 127) (.int .i64 (av 2))).put (some 12) (.pointer (some ⟨b12, 0, none⟩))) ∧ Below w0.heap.size w0 W ∧ VBox W b12 0 0 0 0 ∧ w0.heap.size ≤ b12
  | 9 => ∃ b12 : Nat, a' = ((((((rcR a0 b8 b9 b10 b11 va vb vc vd av).put (some 109) (.int .i64 (av 0))).put (some 118) (.int .i64 (av 1))).put (some 127) (.int .i64 (av 2))).put (some 136) (.int .i64 (av 3))).put (some 137) (.agg #[.int .i64 (av 0), .int .i64 (av 1), .int .i64 (av 2), .int .i64 (av 3)])) ∧ Below w0.heap.size w0 W
  | 10 => ∃ b12 : Nat, a' = ((((((rcR a0 b8 b9 b10 b11 va vb vc vd av).put (some 109) (.int .i64 (av 0))).put (some 118) (.int .i64 (av 1))).put (some 127) (.int .i64 (av 2))).put (some 136) (.int .i64 (av 3))).put (some 12) (.pointer (some ⟨b12, 0, none⟩))) ∧ Below w0.heap.size w0 W ∧ VBox W b12 0 0 0 0 ∧ w0.heap.size ≤ b12
  | 11 => ∃ b12 : Nat, a' = (((((((rcR a0 b8 b9 b10 b11 va vb vc vd av).put (some 109) (.int .i64 (av 0))).put (some 118) (.int .i64 (av 1))).put (some 127) (.int .i64 (av 2))).put (some 136) (.int .i64 (av 3))).put (some 137) (.agg #[.int .i64 (av 0), .int .i64 (av 1), .int .i64 (av 2), .int .i64 (av 3)])).put (some 12) (.pointer (some ⟨b12, 0, none⟩))) ∧ Below w0.heap.size w0 W ∧ VBox W b12 0 0 0 0 ∧ w0.heap.size ≤ b12
  | 12 => ∃ b12 : Nat, a' = (((((((rcR a0 b8 b9 b10 b11 va vb vc vd av).put (some 109) (.int .i64 (av 0))).put (some 118) (.int .i64 (av 1))).put (some 127) (.int .i64 (av 2))).put (some 136) (.int .i64 (av 3))).put (some 137) (.agg #[.int .i64 (av 0), .int .i64 (av 1), .int .i64 (av 2), .int .i64 (av 3)])).put (some 12) (.pointer (some ⟨b12, 0, none⟩))) ∧ Below w0.heap.size w0 W ∧ VBox W b12 (av 0) (av 1) (av 2) (av 3) ∧ w0.heap.size ≤ b12
  | _ => False

end Go.Proofs.Ytcjlgfadjedgbaa
