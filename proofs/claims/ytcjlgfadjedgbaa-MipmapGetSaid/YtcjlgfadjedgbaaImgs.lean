/- Slices of images. No function of a program is named here. -/
import Derived.Test.YtcjlgfadjedgbaaIM
import Derived.Test.YtcjlgfadjedgbaaOpenI
import Derived.Deep.MidRow
import Derived.Deep.Slices
namespace Go.Proofs.Ytcjlgfadjedgbaa
open Go.ChangeShapes Go.WideShapes Go.RowKit Go.Sort

/-- An image as it lies in memory: what it is, where its bytes lie. -/
structure Tx where
  m : Im
  A : Option Addr
  n : Nat
  c : Nat

instance : Inhabited Tx := ⟨⟨⟨0, 0, 0, []⟩, none, 0, 0⟩⟩

/-- It lies in block b from offset o on. -/
def TAt (w : World) (b o : Nat) (t : Tx) : Prop :=
  w.cell? ⟨b, o, none⟩ = some (.int .i64 t.m.f) ∧ w.cell? ⟨b, o + 1, none⟩ = some (.int .i64 t.m.w) ∧ w.cell? ⟨b, o + 2, none⟩ = some (.int .i64 t.m.h) ∧ w.cell? ⟨b, o + 3, none⟩ = some (.slice t.A t.n t.c)

/-- Its bytes lie below block B. -/
def TRd (w : World) (B : Nat) (t : Tx) : Prop := Rd w B .u8 t.A t.n t.m.l ∧ t.n ≤ t.c

/-- n images from address A on, in a block below B. -/
def RdI (w : World) (B : Nat) (A : Option Addr) (n : Nat) (ts : List Tx) : Prop :=
  ts.length = n ∧ (0 < n → ∃ b off, A = some ⟨b, off, none⟩ ∧ b < B ∧ ∀ j t, ts[j]? = some t → TAt w b (off + j * 4) t) ∧ ∀ t ∈ ts, TRd w B t

section
variable {w w' : World} {B B' n b o : Nat} {A : Option Addr} {ts : List Tx} {t : Tx}

theorem TAt.below (h : TAt w b o t) (hb : b < B) (k : Below B w w') : TAt w' b o t :=
  ⟨(k.cell hb).trans h.1, (k.cell hb).trans h.2.1, (k.cell hb).trans h.2.2.1, (k.cell hb).trans h.2.2.2⟩
theorem TAt.on (h : TAt w b o t) (k : Below w.heap.size w w') : TAt w' b o t := h.below (block_lt_of_cell h.1) k
theorem TRd.below (h : TRd w B t) (k : Below B w w') : TRd w' B t := ⟨h.1.below k, h.2⟩
theorem TRd.more (h : TRd w B t) (k : B ≤ B') : TRd w B' t := ⟨h.1.more k, h.2⟩
theorem RdI.len (h : RdI w B A n ts) : ts.length = n := h.1
theorem RdI.below (h : RdI w B A n ts) (k : Below B w w') : RdI w' B A n ts :=
  ⟨h.1, fun hn => by
    obtain ⟨b, off, e, hlt, hc⟩ := h.2.1 hn
    exact ⟨b, off, e, hlt, fun j t ht => (hc j t ht).below hlt k⟩, fun t ht => (h.2.2 t ht).below k⟩
theorem RdI.more (h : RdI w B A n ts) (k : B ≤ B') : RdI w B' A n ts :=
  ⟨h.1, fun hn => by
    obtain ⟨b, off, e, hlt, hc⟩ := h.2.1 hn
    exact ⟨b, off, e, by omega, hc⟩, fun t ht => (h.2.2 t ht).more k⟩
theorem RdI.on (h : RdI w w.heap.size A n ts) (k : Below w.heap.size w w') : RdI w' w'.heap.size A n ts := (h.below k).more k.size
theorem RdI.nil (w : World) (B : Nat) (A : Option Addr) : RdI w B A 0 [] := ⟨rfl, fun h => absurd h (by omega), by simp⟩
theorem RdI.at_ {j : Nat} (h : RdI w B A n ts) (hj : j < n) : ∃ b off t, A = some ⟨b, off, none⟩ ∧ b < B ∧ TAt w b (off + j * 4) t ∧ TRd w B t ∧ ts[j]? = some t := by
  obtain ⟨b, off, e, hlt, hc⟩ := h.2.1 (by omega)
  have hx := List.getElem?_eq_getElem (show j < ts.length by rw [h.1]; exact hj)
  exact ⟨b, off, ts[j]'(by rw [h.1]; exact hj), e, hlt, hc j _ hx, h.2.2 _ (List.getElem_mem _), hx⟩
end

section
variable {P : Program} {ops : Array Oper} {C : World → Prop}

theorem tx_range {W : World} {b o : Nat} {t : Tx} (h : TAt W b o t) : W.rangeAt b o [.int .i64 t.m.f, .int .i64 t.m.w, .int .i64 t.m.h, .slice t.A t.n t.c] := by
  intro j v hv
  match j, hv with
  | 0, hv => simp at hv; subst hv; exact h.1
  | 1, hv => simp at hv; subst hv; exact h.2.1
  | 2, hv => simp at hv; subst hv; exact h.2.2.1
  | 3, hv => simp at hv; subst hv; exact h.2.2.2

/-- An image's type. -/
structure ImgType (P : Program) (ty : TypeId) : Prop where
  row : ∃ d, P.underlying ty = some d ∧ d.isRow = true
  size : (P.info? ty).map (·.size) = some 4

/-- A whole image loaded out of a slice. -/
theorem wpList_tload {Q : Exit → Act → World → Prop} {rest : List Oper} {op : Oper} {a : Act} {W : World} {b o : Nat} {t : Tx} (hg : op.guard = none) (ty : TypeId) (x : Operand) (ho : op.op = .load ty x) (T : ImgType P ty) (k : TAt W b o t)
    (hx : a.eval x = .pointer (some ⟨b, o, none⟩)) (H : wpList P ops Q rest (a.put op.dst (.agg #[.int .i64 t.m.f, .int .i64 t.m.w, .int .i64 t.m.h, .slice t.A t.n t.c])) W) : wpList P ops Q (op :: rest) a W := by
  obtain ⟨⟨d, h1, h2⟩, h3⟩ := T
  exact wpList_load_mid hg ty x ho b o hx _ d (tx_range k) h1 h2 h3 H

/-- .. in a region that draws its order. -/
theorem quiet_tload {K : Act → Prop} {op : Oper} {a : Act} {b o : Nat} {t : Tx} (ty : TypeId) (x : Operand) (ho : op.op = .load ty x) (T : ImgType P ty)
    (k : ∀ W, C W → TAt W b o t) (hx : a.eval x = .pointer (some ⟨b, o, none⟩)) (hk : K (a.put op.dst (.agg #[.int .i64 t.m.f, .int .i64 t.m.w, .int .i64 t.m.h, .slice t.A t.n t.c]))) : op.quiet P a C K :=
  ⟨_, fun W hW => by
    obtain ⟨⟨d, h1, h2⟩, h3⟩ := T
    unfold Oper.quietAt execOp
    simp only [ho, hx, Instr.loadAt, Instr.sureAddr, Sem.run_bind, Sem.run_pure, Result.andThen_ok, run_loadVar_mid W b o ty _ d (tx_range (k W hW)) h1 h2 h3]
    exact ⟨rfl, rfl⟩, hk⟩
end

/-! ### from a frame -/
section
open Go.Deep Go.Joins
variable {H : Type} {enc : TypeId × Value → H} {P : Program} {w : World} {base : Nat} {spare : Nat → Bool} {held : Bool}

theorem cells4 {a : Addr} {cs : List Value} (h : w.cells? base a 4 = some cs) : ∃ v0 v1 v2 v3, cs = [v0, v1, v2, v3] ∧ w.cell? (a.add 0) = some v0 ∧ w.cell? (a.add 1) = some v1 ∧ w.cell? (a.add 2) = some v2 ∧ w.cell? (a.add 3) = some v3 := by
  obtain ⟨hb, hlen, hc⟩ := World.cells?_some h
  match cs, hlen with
  | [v0, v1, v2, v3], _ => exact ⟨v0, v1, v2, v3, rfl, hc 0 (by omega), hc 1 (by omega), hc 2 (by omega), hc 3 (by omega)⟩

theorem tx_open {e b : TypeId} {g0 g1 g2 g3 : Field} {fuel : Nat} {v0 v1 v2 v3 : Value} {x : DataW H × List MemPlace} (he : P.underlying e = some (.struct #[g0, g1, g2, g3])) (hone : oneCellFields P #[g0, g1, g2, g3] = true)
    (hi : P.underlying g0.type = some (.int .i64) ∧ P.underlying g1.type = some (.int .i64) ∧ P.underlying g2.type = some (.int .i64)) (hu : P.underlying g3.type = some (.slice b)) (hb : P.underlying b = some (.int .u8)) (hc : P.cellsOf b = 1)
    (h : DataW.trod enc P w base spare held fuel e [v0, v1, v2, v3] = some x) : ∃ f wd ht A n c l, v0 = .int .i64 f ∧ v1 = .int .i64 wd ∧ v2 = .int .i64 ht ∧ v3 = .slice A n c ∧ Rd w w.heap.size .u8 A n l ∧ n ≤ c := by
  obtain ⟨xs, n, _, _, _, hlen, hx⟩ := DataW.trod_struct he h
  match xs, hlen with
  | [y0, y1, y2, y3], _ =>
    obtain ⟨o0, k0⟩ := hone_of hone 0 g0 rfl
    obtain ⟨o1, k1⟩ := hone_of hone 1 g1 rfl
    obtain ⟨o2, k2⟩ := hone_of hone 2 g2 rfl
    obtain ⟨o3, k3⟩ := hone_of hone 3 g3 rfl
    obtain ⟨h0, h1, h2⟩ := hi
    obtain ⟨z0, rfl, _⟩ := trod_i64 h0 (by simpa [Value.cells, o0, k0] using hx 0 g0 rfl)
    obtain ⟨z1, rfl, _⟩ := trod_i64 h1 (by simpa [Value.cells, o1, k1] using hx 1 g1 rfl)
    obtain ⟨z2, rfl, _⟩ := trod_i64 h2 (by simpa [Value.cells, o2, k2] using hx 2 g2 rfl)
    obtain ⟨A, m, c, l, rfl, R, hmc, _, _⟩ := rd_open hu hb hc (by simpa [Value.cells, o3, k3] using hx 3 g3 rfl)
    exact ⟨z0, z1, z2, A, m, c, l, rfl, rfl, rfl, rfl, R, hmc⟩

/-- A slice of images that came in. -/
theorem imgs_open {t e b : TypeId} {g0 g1 g2 g3 : Field} {fuel : Nat} {v : Value} {x : DataW H × List MemPlace} (ht : P.underlying t = some (.slice e)) (hce : P.cellsOf e = 4) (he : P.underlying e = some (.struct #[g0, g1, g2, g3])) (hone : oneCellFields P #[g0, g1, g2, g3] = true)
    (hi : P.underlying g0.type = some (.int .i64) ∧ P.underlying g1.type = some (.int .i64) ∧ P.underlying g2.type = some (.int .i64)) (hu : P.underlying g3.type = some (.slice b)) (hb : P.underlying b = some (.int .u8)) (hc : P.cellsOf b = 1)
    (h : DataW.trod enc P w base spare held fuel t [v] = some x) : ∃ A n c ts, v = .slice A n c ∧ RdI w w.heap.size A n ts ∧ n ≤ c ∧ c ≤ maxLen := by
  rcases open_slice ht h with ⟨h1, _⟩ | ⟨a, len, cap, m, n', D, Pl, h1, _, hl, hcap, hm, _, hx⟩
  · simp only [List.cons.injEq, and_true] at h1
    exact ⟨none, 0, 0, [], h1, RdI.nil _ _ _, Nat.le_refl _, Nat.zero_le _⟩
  · simp only [List.cons.injEq, and_true] at h1
    subst h1
    have hlm : len ≤ m := by rw [hm]; split <;> omega
    have key : ∀ i, i < len → ∃ t : Tx, (w.cell? ((a.add (i * 4)).add 0) = some (.int .i64 t.m.f) ∧ w.cell? ((a.add (i * 4)).add 1) = some (.int .i64 t.m.w) ∧ w.cell? ((a.add (i * 4)).add 2) = some (.int .i64 t.m.h) ∧ w.cell? ((a.add (i * 4)).add 3) = some (.slice t.A t.n t.c)) ∧ TRd w w.heap.size t := by
      intro i hil
      obtain ⟨cs, h2, h3⟩ := hx i (by omega)
      rw [hce] at h2
      obtain ⟨v0, v1, v2, v3, rfl, c0, c1, c2, c3⟩ := cells4 h2
      obtain ⟨f, wd, hgt, A, q, c, l, rfl, rfl, rfl, rfl, R, hqc⟩ := tx_open he hone hi hu hb hc h3
      exact ⟨⟨⟨f, wd, hgt, l⟩, A, q, c⟩, ⟨c0, c1, c2, c3⟩, R, hqc⟩
    obtain ⟨T, hT⟩ := choose_lt key
    refine ⟨some a, len, cap, (List.range len).map T, rfl, ⟨by simp, fun hn => ?_, fun t ht => ?_⟩, hl, hcap⟩
    · have h0 := (hT 0 hn).1.1
      obtain ⟨b0, off, spot⟩ := a
      have hspot : spot = none := by
        have := World.cell?_spot h0
        simpa [Addr.add] using this
      subst hspot
      refine ⟨b0, off, rfl, ?_, fun j t ht => ?_⟩
      · rw [add_plain', add_plain'] at h0
        exact World.block_lt_of_cell? w _ h0
      · rw [List.getElem?_map, Option.map_eq_some_iff] at ht
        obtain ⟨j', hj', rfl⟩ := ht
        obtain ⟨hlt, e⟩ := List.getElem?_eq_some_iff.1 hj'
        rw [List.getElem_range] at e
        subst e
        rw [List.length_range] at hlt
        have hh := (hT j hlt).1
        simp only [add_plain', Nat.add_zero] at hh
        exact hh
    · obtain ⟨i, hi, rfl⟩ := List.mem_map.1 ht
      have hlt := List.mem_range.1 hi
      exact (hT i hlt).2

/-- A texture by value: a struct of one slice of images. -/
theorem open_tex {r : Reach} {b0 : Nat} {t e b : TypeId} {f0 g0 g1 g2 g3 : Field} {v : Value} {d : DataW H} {p : List MemPlace} (hs : P.underlying t = some (.struct #[f0])) (hone0 : oneCellFields P #[f0] = true) (hC : P.cellsOf t = 1)
    (ht : P.underlying f0.type = some (.slice e)) (hce : P.cellsOf e = 4) (he : P.underlying e = some (.struct #[g0, g1, g2, g3])) (hone : oneCellFields P #[g0, g1, g2, g3] = true)
    (hi : P.underlying g0.type = some (.int .i64) ∧ P.underlying g1.type = some (.int .i64) ∧ P.underlying g2.type = some (.int .i64)) (hu : P.underlying g3.type = some (.slice b)) (hb : P.underlying b = some (.int .u8)) (hc : P.cellsOf b = 1)
    (hv : Value.okWide P w r b0 t v) (h : DataW.Trod enc P w base spare held t v d p) : ∃ A n c ts, v = .agg #[.slice A n c] ∧ RdI w w.heap.size A n ts ∧ n ≤ c ∧ c ≤ maxLen := by
  obtain ⟨cs, rfl, hsz⟩ := okWide_struct hs hv
  obtain ⟨l⟩ := cs
  have hsz' : l.length = 1 := hsz.trans hC
  match l, hsz' with
  | [c0], _ =>
    obtain ⟨fuel, hf⟩ := h
    obtain ⟨xs, n, _, _, _, hlen, hx⟩ := DataW.trod_struct hs hf
    match xs, hlen with
    | [y0], _ =>
      obtain ⟨o0, k0⟩ := hone_of hone0 0 f0 rfl
      obtain ⟨A, n, c, ts, rfl, R, h1, h2⟩ := imgs_open ht hce he hone hi hu hb hc (v := c0) (by simpa [Value.cells, o0, k0] using hx 0 f0 rfl)
      exact ⟨A, n, c, ts, rfl, R, h1, h2⟩
end

end Go.Proofs.Ytcjlgfadjedgbaa
