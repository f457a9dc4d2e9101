/- Slices of images. No function of a program is named here. -/
import Derived.Test.YtcjlgfadjedgbaaIM
import Derived.Test.YtcjlgfadjedgbaaOpenI
import Derived.Deep.MidRow
import Derived.Deep.Slices
import Derived.Maps.AppendAt
namespace Go.Proofs.Ytcjlgfadjedgbaa
open Go.ChangeShapes Go.WideShapes Go.RowKit Go.Sort

/-- An image as it lies in memory: what it is, where its bytes lie. -/
structure Tx where
  m : Im
  A : Option Addr
  n : Nat
  c : Nat

instance : Inhabited Tx := ⟨⟨⟨0, 0, 0, []⟩, none, 0, 0⟩⟩

/-- It lies in block b from offset o on. -/
def TAt (w : World) (b o : Nat) (t : Tx) : Prop :=
  w.cell? ⟨b, o, none⟩ = some (.int .i64 t.m.f) ∧ w.cell? ⟨b, o + 1, none⟩ = some (.int .i64 t.m.w) ∧ w.cell? ⟨b, o + 2, none⟩ = some (.int .i64 t.m.h) ∧ w.cell? ⟨b, o + 3, none⟩ = some (.slice t.A t.n t.c)

/-- Its bytes lie below block B. -/
def TRd (w : World) (B : Nat) (t : Tx) : Prop := Rd w B .u8 t.A t.n t.m.l ∧ t.n ≤ t.c

/-- n images from address A on, in a block below B. -/
def RdI (w : World) (B : Nat) (A : Option Addr) (n : Nat) (ts : List Tx) : Prop :=
  ts.length = n ∧ (0 < n → ∃ b off, A = some ⟨b, off, none⟩ ∧ b < B ∧ ∀ j t, ts[j]? = some t → TAt w b (off + j * 4) t) ∧ ∀ t ∈ ts, TRd w B t

section
variable {w w' : World} {B B' n b o : Nat} {A : Option Addr} {ts : List Tx} {t : Tx}

theorem TAt.below (h : TAt w b o t) (hb : b < B) (k : Below B w w') : TAt w' b o t :=
  ⟨(k.cell hb).trans h.1, (k.cell hb).trans h.2.1, (k.cell hb).trans h.2.2.1, (k.cell hb).trans h.2.2.2⟩
theorem TAt.on (h : TAt w b o t) (k : Below w.heap.size w w') : TAt w' b o t := h.below (block_lt_of_cell h.1) k
theorem TRd.below (h : TRd w B t) (k : Below B w w') : TRd w' B t := ⟨h.1.below k, h.2⟩
theorem TRd.more (h : TRd w B t) (k : B ≤ B') : TRd w B' t := ⟨h.1.more k, h.2⟩
theorem RdI.len (h : RdI w B A n ts) : ts.length = n := h.1
theorem RdI.below (h : RdI w B A n ts) (k : Below B w w') : RdI w' B A n ts :=
  ⟨h.1, fun hn => by
    obtain ⟨b, off, e, hlt, hc⟩ := h.2.1 hn
    exact ⟨b, off, e, hlt, fun j t ht => (hc j t ht).below hlt k⟩, fun t ht => (h.2.2 t ht).below k⟩
theorem RdI.more (h : RdI w B A n ts) (k : B ≤ B') : RdI w B' A n ts :=
  ⟨h.1, fun hn => by
    obtain ⟨b, off, e, hlt, hc⟩ := h.2.1 hn
    exact ⟨b, off, e, by omega, hc⟩, fun t ht => (h.2.2 t ht).more k⟩
theorem RdI.on (h : RdI w w.heap.size A n ts) (k : Below w.heap.size w w') : RdI w' w'.heap.size A n ts := (h.below k).more k.size
theorem RdI.nil (w : World) (B : Nat) (A : Option Addr) : RdI w B A 0 [] := ⟨rfl, fun h => absurd h (by omega), by simp⟩
theorem RdI.at_ {j : Nat} (h : RdI w B A n ts) (hj : j < n) : ∃ b off t, A = some ⟨b, off, none⟩ ∧ b < B ∧ TAt w b (off + j * 4) t ∧ TRd w B t ∧ ts[j]? = some t := by
  obtain ⟨b, off, e, hlt, hc⟩ := h.2.1 (by omega)
  have hx := List.getElem?_eq_getElem (show j < ts.length by rw [h.1]; exact hj)
  exact ⟨b, off, ts[j]'(by rw [h.1]; exact hj), e, hlt, hc j _ hx, h.2.2 _ (List.getElem_mem _), hx⟩
end

section
variable {P : Program} {ops : Array Oper} {C : World → Prop}

theorem tx_range {W : World} {b o : Nat} {t : Tx} (h : TAt W b o t) : W.rangeAt b o [.int .i64 t.m.f, .int .i64 t.m.w, .int .i64 t.m.h, .slice t.A t.n t.c] := by
  intro j v hv
  match j, hv with
  | 0, hv => simp at hv; subst hv; exact h.1
  | 1, hv => simp at hv; subst hv; exact h.2.1
  | 2, hv => simp at hv; subst hv; exact h.2.2.1
  | 3, hv => simp at hv; subst hv; exact h.2.2.2

/-- An image's type. -/
structure ImgType (P : Program) (ty : TypeId) : Prop where
  row : ∃ d, P.underlying ty = some d ∧ d.isRow = true
  size : (P.info? ty).map (·.size) = some 4

/-- A whole image loaded out of a slice. -/
theorem wpList_tload {Q : Exit → Act → World → Prop} {rest : List Oper} {op : Oper} {a : Act} {W : World} {b o : Nat} {t : Tx} (hg : op.guard = none) (ty : TypeId) (x : Operand) (ho : op.op = .load ty x) (T : ImgType P ty) (k : TAt W b o t)
    (hx : a.eval x = .pointer (some ⟨b, o, none⟩)) (H : wpList P ops Q rest (a.put op.dst (.agg #[.int .i64 t.m.f, .int .i64 t.m.w, .int .i64 t.m.h, .slice t.A t.n t.c])) W) : wpList P ops Q (op :: rest) a W := by
  obtain ⟨⟨d, h1, h2⟩, h3⟩ := T
  exact wpList_load_mid hg ty x ho b o hx _ d (tx_range k) h1 h2 h3 H

/-- .. in a region that draws its order. -/
theorem quiet_tload {K : Act → Prop} {op : Oper} {a : Act} {b o : Nat} {t : Tx} (ty : TypeId) (x : Operand) (ho : op.op = .load ty x) (T : ImgType P ty)
    (k : ∀ W, C W → TAt W b o t) (hx : a.eval x = .pointer (some ⟨b, o, none⟩)) (hk : K (a.put op.dst (.agg #[.int .i64 t.m.f, .int .i64 t.m.w, .int .i64 t.m.h, .slice t.A t.n t.c]))) : op.quiet P a C K :=
  ⟨_, fun W hW => by
    obtain ⟨⟨d, h1, h2⟩, h3⟩ := T
    unfold Oper.quietAt execOp
    simp only [ho, hx, Instr.loadAt, Instr.sureAddr, Sem.run_bind, Sem.run_pure, Result.andThen_ok, run_loadVar_mid W b o ty _ d (tx_range (k W hW)) h1 h2 h3]
    exact ⟨rfl, rfl⟩, hk⟩
end

/-! ### from a frame -/
section
open Go.Deep Go.Joins
variable {H : Type} {enc : TypeId × Value → H} {P : Program} {w : World} {base : Nat} {spare : Nat → Bool} {held : Bool}

theorem cells4 {a : Addr} {cs : List Value} (h : w.cells? base a 4 = some cs) : ∃ v0 v1 v2 v3, cs = [v0, v1, v2, v3] ∧ w.cell? (a.add 0) = some v0 ∧ w.cell? (a.add 1) = some v1 ∧ w.cell? (a.add 2) = some v2 ∧ w.cell? (a.add 3) = some v3 := by
  obtain ⟨hb, hlen, hc⟩ := World.cells?_some h
  match cs, hlen with
  | [v0, v1, v2, v3], _ => exact ⟨v0, v1, v2, v3, rfl, hc 0 (by omega), hc 1 (by omega), hc 2 (by omega), hc 3 (by omega)⟩

theorem tx_open {e b : TypeId} {g0 g1 g2 g3 : Field} {fuel : Nat} {v0 v1 v2 v3 : Value} {x : DataW H × List MemPlace} (he : P.underlying e = some (.struct #[g0, g1, g2, g3])) (hone : oneCellFields P #[g0, g1, g2, g3] = true)
    (hi : P.underlying g0.type = some (.int .i64) ∧ P.underlying g1.type = some (.int .i64) ∧ P.underlying g2.type = some (.int .i64)) (hu : P.underlying g3.type = some (.slice b)) (hb : P.underlying b = some (.int .u8)) (hc : P.cellsOf b = 1)
    (h : DataW.trod enc P w base spare held fuel e [v0, v1, v2, v3] = some x) : ∃ f wd ht A n c l, v0 = .int .i64 f ∧ v1 = .int .i64 wd ∧ v2 = .int .i64 ht ∧ v3 = .slice A n c ∧ Rd w w.heap.size .u8 A n l ∧ n ≤ c := by
  obtain ⟨xs, n, _, _, _, hlen, hx⟩ := DataW.trod_struct he h
  match xs, hlen with
  | [y0, y1, y2, y3], _ =>
    obtain ⟨o0, k0⟩ := hone_of hone 0 g0 rfl
    obtain ⟨o1, k1⟩ := hone_of hone 1 g1 rfl
    obtain ⟨o2, k2⟩ := hone_of hone 2 g2 rfl
    obtain ⟨o3, k3⟩ := hone_of hone 3 g3 rfl
    obtain ⟨h0, h1, h2⟩ := hi
    obtain ⟨z0, rfl, _⟩ := trod_i64 h0 (by simpa [Value.cells, o0, k0] using hx 0 g0 rfl)
    obtain ⟨z1, rfl, _⟩ := trod_i64 h1 (by simpa [Value.cells, o1, k1] using hx 1 g1 rfl)
    obtain ⟨z2, rfl, _⟩ := trod_i64 h2 (by simpa [Value.cells, o2, k2] using hx 2 g2 rfl)
    obtain ⟨A, m, c, l, rfl, R, hmc, _, _⟩ := rd_open hu hb hc (by simpa [Value.cells, o3, k3] using hx 3 g3 rfl)
    exact ⟨z0, z1, z2, A, m, c, l, rfl, rfl, rfl, rfl, R, hmc⟩

/-- A slice of images that came in. -/
theorem imgs_open {t e b : TypeId} {g0 g1 g2 g3 : Field} {fuel : Nat} {v : Value} {x : DataW H × List MemPlace} (ht : P.underlying t = some (.slice e)) (hce : P.cellsOf e = 4) (he : P.underlying e = some (.struct #[g0, g1, g2, g3])) (hone : oneCellFields P #[g0, g1, g2, g3] = true)
    (hi : P.underlying g0.type = some (.int .i64) ∧ P.underlying g1.type = some (.int .i64) ∧ P.underlying g2.type = some (.int .i64)) (hu : P.underlying g3.type = some (.slice b)) (hb : P.underlying b = some (.int .u8)) (hc : P.cellsOf b = 1)
    (h : DataW.trod enc P w base spare held fuel t [v] = some x) : ∃ A n c ts, v = .slice A n c ∧ RdI w w.heap.size A n ts ∧ n ≤ c ∧ c ≤ maxLen := by
  rcases open_slice ht h with ⟨h1, _⟩ | ⟨a, len, cap, m, n', D, Pl, h1, _, hl, hcap, hm, _, hx⟩
  · simp only [List.cons.injEq, and_true] at h1
    exact ⟨none, 0, 0, [], h1, RdI.nil _ _ _, Nat.le_refl _, Nat.zero_le _⟩
  · simp only [List.cons.injEq, and_true] at h1
    subst h1
    have hlm : len ≤ m := by rw [hm]; split <;> omega
    have key : ∀ i, i < len → ∃ t : Tx, (w.cell? ((a.add (i * 4)).add 0) = some (.int .i64 t.m.f) ∧ w.cell? ((a.add (i * 4)).add 1) = some (.int .i64 t.m.w) ∧ w.cell? ((a.add (i * 4)).add 2) = some (.int .i64 t.m.h) ∧ w.cell? ((a.add (i * 4)).add 3) = some (.slice t.A t.n t.c)) ∧ TRd w w.heap.size t := by
      intro i hil
      obtain ⟨cs, h2, h3⟩ := hx i (by omega)
      rw [hce] at h2
      obtain ⟨v0, v1, v2, v3, rfl, c0, c1, c2, c3⟩ := cells4 h2
      obtain ⟨f, wd, hgt, A, q, c, l, rfl, rfl, rfl, rfl, R, hqc⟩ := tx_open he hone hi hu hb hc h3
      exact ⟨⟨⟨f, wd, hgt, l⟩, A, q, c⟩, ⟨c0, c1, c2, c3⟩, R, hqc⟩
    obtain ⟨T, hT⟩ := choose_lt key
    refine ⟨some a, len, cap, (List.range len).map T, rfl, ⟨by simp, fun hn => ?_, fun t ht => ?_⟩, hl, hcap⟩
    · have h0 := (hT 0 hn).1.1
      obtain ⟨b0, off, spot⟩ := a
      have hspot : spot = none := by
        have := World.cell?_spot h0
        simpa [Addr.add] using this
      subst hspot
      refine ⟨b0, off, rfl, ?_, fun j t ht => ?_⟩
      · rw [add_plain', add_plain'] at h0
        exact World.block_lt_of_cell? w _ h0
      · rw [List.getElem?_map, Option.map_eq_some_iff] at ht
        obtain ⟨j', hj', rfl⟩ := ht
        obtain ⟨hlt, e⟩ := List.getElem?_eq_some_iff.1 hj'
        rw [List.getElem_range] at e
        subst e
        rw [List.length_range] at hlt
        have hh := (hT j hlt).1
        simp only [add_plain', Nat.add_zero] at hh
        exact hh
    · obtain ⟨i, hi, rfl⟩ := List.mem_map.1 ht
      have hlt := List.mem_range.1 hi
      exact (hT i hlt).2

/-- A texture by value: a struct of one slice of images. -/
theorem open_tex {r : Reach} {b0 : Nat} {t e b : TypeId} {f0 g0 g1 g2 g3 : Field} {v : Value} {d : DataW H} {p : List MemPlace} (hs : P.underlying t = some (.struct #[f0])) (hone0 : oneCellFields P #[f0] = true) (hC : P.cellsOf t = 1)
    (ht : P.underlying f0.type = some (.slice e)) (hce : P.cellsOf e = 4) (he : P.underlying e = some (.struct #[g0, g1, g2, g3])) (hone : oneCellFields P #[g0, g1, g2, g3] = true)
    (hi : P.underlying g0.type = some (.int .i64) ∧ P.underlying g1.type = some (.int .i64) ∧ P.underlying g2.type = some (.int .i64)) (hu : P.underlying g3.type = some (.slice b)) (hb : P.underlying b = some (.int .u8)) (hc : P.cellsOf b = 1)
    (hv : Value.okWide P w r b0 t v) (h : DataW.Trod enc P w base spare held t v d p) : ∃ A n c ts, v = .agg #[.slice A n c] ∧ RdI w w.heap.size A n ts ∧ n ≤ c ∧ c ≤ maxLen := by
  obtain ⟨cs, rfl, hsz⟩ := okWide_struct hs hv
  obtain ⟨l⟩ := cs
  have hsz' : l.length = 1 := hsz.trans hC
  match l, hsz' with
  | [c0], _ =>
    obtain ⟨fuel, hf⟩ := h
    obtain ⟨xs, n, _, _, _, hlen, hx⟩ := DataW.trod_struct hs hf
    match xs, hlen with
    | [y0], _ =>
      obtain ⟨o0, k0⟩ := hone_of hone0 0 f0 rfl
      obtain ⟨A, n, c, ts, rfl, R, h1, h2⟩ := imgs_open ht hce he hone hi hu hb hc (v := c0) (by simpa [Value.cells, o0, k0] using hx 0 f0 rfl)
      exact ⟨A, n, c, ts, rfl, R, h1, h2⟩
end

end Go.Proofs.Ytcjlgfadjedgbaa

/- Slices of images that a call itself made and may grow. No function of a program is named here. -/
namespace Go.Proofs.Ytcjlgfadjedgbaa
open Go.ChangeShapes Go.WideShapes Go.RowKit

def txv (t : Tx) : List Value := [.int .i64 t.m.f, .int .i64 t.m.w, .int .i64 t.m.h, .slice t.A t.n t.c]

/-- An image's bytes lie in a block from 'base' on, that is not block b. -/
def TFar (w : World) (base : Nat) (t : Tx) : Prop := TRd w w.heap.size t ∧ ∀ g, t.A = some g → base ≤ g.block ∧ g.block < w.heap.size

/-- The slice 'A n c' lies at the head of a row among the blocks from 'base' on (or is nil), and holds the images ts, whose bytes lie in other blocks from 'base' on. -/
def OwnI (w : World) (base : Nat) (e : TypeId) (A : Option Addr) (n c : Nat) (ts : List Tx) : Prop :=
  w.ownsRow base e 4 (.slice A n c) n (ts.flatMap txv) ∧ base ≤ w.heap.size ∧ ts.length = n ∧ (∀ t ∈ ts, TFar w base t) ∧ ∀ t ∈ ts, ∀ g, t.A = some g → ∀ r, A = some r → g.block ≠ r.block

/-- t is the type of slices of images, of type e. -/
def ElemI (P : Program) (t e : TypeId) : Prop :=
  P.underlying t = some (.slice e) ∧ ∃ i z, P.info? e = some i ∧ i.zero = some z ∧ z.cells.size = 4 ∧ i.size = 4 ∧ i.bytes = 48

theorem elemI_of {P : Program} {t e : TypeId} (ht : P.underlying t = some (.slice e)) (h : (P.info? e).map (fun i => (i.zero.map (·.cells.size), i.size, i.bytes)) = some (some 4, 4, 48)) : ElemI P t e := by
  refine ⟨ht, ?_⟩
  cases hi : P.info? e with
  | none => rw [hi] at h; cases h
  | some i =>
    rw [hi] at h
    simp only [Option.map_some, Option.some.injEq, Prod.mk.injEq] at h
    obtain ⟨h1, h2, h3⟩ := h
    cases hz : i.zero with
    | none => rw [hz] at h1; cases h1
    | some z =>
      rw [hz] at h1
      simp only [Option.map_some, Option.some.injEq] at h1
      exact ⟨i, z, rfl, hz, h1, h2, h3⟩

theorem Own.since {w : World} {base b n c : Nat} {e : TypeId} {k : IntKind} {A : Option Addr} {l : List Int} (h : Own w base e k A n c l) (hb : b ≤ base) : Own w b e k A n c l :=
  ⟨⟨h.1.1, h.1.2.imp id fun ⟨g, cap, cur, h1, h2, h3⟩ => ⟨g, cap, cur, h1, Nat.le_trans hb h2, h3⟩⟩, h.2.1, Nat.le_trans hb h.2.2⟩

section
variable {w w' : World} {n c m base B b o : Nat} {A : Option Addr} {ts : List Tx} {e e' : TypeId} {t : Tx}

theorem txv_len (t : Tx) : (txv t).length = 4 := rfl
theorem txvs_len (ts : List Tx) : (ts.flatMap txv).length = ts.length * 4 := by
  induction ts with
  | nil => rfl
  | cons t r ih => rw [List.flatMap_cons, List.length_append, ih, txv_len, List.length_cons]; omega
theorem txvs_get {ts : List Tx} {j : Nat} {t : Tx} (h : ts[j]? = some t) {i : Nat} {v : Value} (hv : (txv t)[i]? = some v) : (ts.flatMap txv)[j * 4 + i]? = some v := by
  induction ts generalizing j with
  | nil => cases h
  | cons u r ih =>
    have hi : i < 4 := by rw [← txv_len t]; exact (List.getElem?_eq_some_iff.1 hv).1
    rw [List.flatMap_cons]
    cases j with
    | zero =>
      simp only [List.getElem?_cons_zero, Option.some.injEq] at h
      subst h
      rw [List.getElem?_append_left (by rw [txv_len]; omega), Nat.zero_mul, Nat.zero_add]
      exact hv
    | succ j =>
      rw [List.getElem?_cons_succ] at h
      rw [List.getElem?_append_right (by rw [txv_len]; omega), txv_len, show (j + 1) * 4 + i - 4 = j * 4 + i by omega]
      exact ih h

theorem TFar.of {l : List Int} {f wd ht : Int} {n c : Nat} {A : Option Addr} (h : Own w base e .u8 A n c l) : TFar w base ⟨⟨f, wd, ht, l⟩, A, n, c⟩ := by
  refine ⟨⟨h.rd, h.room⟩, fun g hg => ?_⟩
  simp only at hg
  subst hg
  exact h.1.lt g.block rfl
theorem TFar.since (h : TFar w base t) (hb : b ≤ base) : TFar w b t := ⟨h.1, fun g hg => ⟨Nat.le_trans hb (h.2 g hg).1, (h.2 g hg).2⟩⟩
theorem TFar.on (h : TFar w base t) (k : Below w.heap.size w w') : TFar w' base t :=
  ⟨(h.1.below k).more k.size, fun g hg => ⟨(h.2 g hg).1, Nat.lt_of_lt_of_le (h.2 g hg).2 k.size⟩⟩
theorem TFar.past {row : Option Nat} (h : TFar w base t) (hg : w.grownBy w' row) (hne : ∀ g, t.A = some g → some g.block ≠ row) : TFar w' base t := by
  refine ⟨⟨⟨h.1.1.1, h.1.1.2.1, fun hn => ?_⟩, h.1.2⟩, fun g hA => ⟨(h.2 g hA).1, Nat.lt_of_lt_of_le (h.2 g hA).2 hg.size⟩⟩
  obtain ⟨b, off, hA, hb, hc⟩ := h.1.1.2.2 hn
  exact ⟨b, off, hA, Nat.lt_of_lt_of_le hb hg.size, fun j x hx => hg.cell (hc j x hx) (hne ⟨b, off, none⟩ hA)⟩

theorem OwnI.len (h : OwnI w base e A n c ts) : ts.length = n := h.2.2.1
theorem OwnI.base_le (h : OwnI w base e A n c ts) : base ≤ w.heap.size := h.2.1
theorem OwnI.rd (h : OwnI w base e A n c ts) : RdI w w.heap.size A n ts := by
  refine ⟨h.len, fun hn => ?_, fun t ht => (h.2.2.2.1 t ht).1⟩
  have hlt := h.1.lt
  have hcell := fun g => h.1.cells (g := g)
  rcases h.1.2 with ⟨_, h0⟩ | ⟨g, cap, cur, hv, hb, hh, hnc, hcm, hcs, htake⟩
  · omega
  · simp only [Value.slice.injEq] at hv
    obtain ⟨rfl, _, rfl⟩ := hv
    refine ⟨g, 0, rfl, (hlt g rfl).2, fun j x hx => ?_⟩
    have hk := fun i v (hv : (txv x)[i]? = some v) => hcell g rfl (j * 4 + i) v (txvs_get hx hv)
    simp only [add_plain'] at hk
    exact ⟨hk 0 _ rfl, by have := hk 1 _ rfl; rwa [← Nat.add_assoc] at this, by have := hk 2 _ rfl; rwa [← Nat.add_assoc] at this, by have := hk 3 _ rfl; rwa [← Nat.add_assoc] at this⟩

theorem OwnI.room (h : OwnI w base e A n c ts) : n ≤ c := by
  rcases h.1.2 with ⟨_, h0⟩ | ⟨g, cap, cur, hv, hb, hh, hnc, hcm, hcs, htake⟩
  · omega
  · simp only [Value.slice.injEq] at hv
    omega
theorem OwnI.on (h : OwnI w base e A n c ts) (hb : Below w.heap.size w w') : OwnI w' base e A n c ts :=
  ⟨h.1.kept (grown_of_below hb) (by cases hv : Value.ownBlock (.slice A n c) <;> simp), Nat.le_trans h.2.1 hb.size, h.2.2.1, fun t ht => (h.2.2.2.1 t ht).on hb, h.2.2.2.2⟩
/-- A block below them all has changed. -/
theorem OwnI.past (h : OwnI w base e A n c ts) (hg : w.grownBy w' (some b)) (hb : b < base) : OwnI w' base e A n c ts := by
  refine ⟨h.1.kept hg ?_, Nat.le_trans h.2.1 hg.size, h.2.2.1, fun t ht => (h.2.2.2.1 t ht).past hg fun g hA e => ?_, h.2.2.2.2⟩
  · have hlt := h.1.lt
    cases hv : Value.ownBlock (.slice A n c) with
    | none => exact .inr (fun e => by cases e)
    | some g => exact .inr (fun e => by have := (hlt g hv).1; simp at e; omega)
  · have := ((h.2.2.2.1 t ht).2 g hA).1
    simp at e
    omega
/-- A slice of one image, just laid. -/
theorem OwnI.made1 (h : TFar w base t) (hb : base ≤ w.heap.size) : OwnI (w.alloc (.cells #[.int .i64 t.m.f, .int .i64 t.m.w, .int .i64 t.m.h, .slice t.A t.n t.c] e)) base e (some ⟨w.heap.size, 0, none⟩) 1 1 [t] := by
  have BW : Below w.heap.size w (w.alloc (.cells #[.int .i64 t.m.f, .int .i64 t.m.w, .int .i64 t.m.h, .slice t.A t.n t.c] e)) := (Below.refl _ _).alloc (Nat.le_refl _) _
  refine ⟨⟨by simp [txv], .inr ⟨w.heap.size, 1, _, rfl, hb, heap_alloc_new w _, Nat.le_refl _, by decide, rfl, by simp [txv]⟩⟩, Nat.le_trans hb BW.size, rfl, fun u hu => ?_, fun u hu g hA r hr => ?_⟩
  · rw [List.mem_singleton] at hu
    subst hu
    exact h.on BW
  · rw [List.mem_singleton] at hu
    subst hu
    cases hr
    have := (h.2 g hA).2
    simp only
    omega
end

section
variable {P : Program} {ops : Array Oper} {rest : List Oper} {o : Oper} {a : Act} {Q : Exit → Act → World → Prop}

/-- The run of 'append(s, x)' onto an owned slice of images; x's cells lie in block b. -/
theorem run_appI (W : World) {t ty e : TypeId} (E : ElemI P t e) {base n c : Nat} {A : Option Addr} {ts : List Tx} (own : OwnI W base e A n c ts) {x : Tx} (F : TFar W base x) (hF : ∀ g, x.A = some g → ∀ r, A = some r → g.block ≠ r.block)
    {b d : Nat} (R : TAt W b 0 x) (h63 : n + 1 ≤ maxLen) (hb : (n + 1) * 48 ≤ 140737488355328) :
    ∃ A' c' W1, (Builtin.append_ #[t, t] ty #[.slice A n c, .slice (some ⟨b, 0, none⟩) 1 d]).run P W = .ok (.slice A' (n + 1) c') W1 ∧ OwnI W1 base e A' (n + 1) c' (ts ++ [x]) ∧ Below base W W1 := by
  obtain ⟨ht, i, z, hi, hz, hzs, hsize, hby⟩ := E
  obtain ⟨v', w', hrun, h2, h3, _, h5⟩ := run_append_own_at (P := P) W base t ty e i z 4 48 ht hi hz hsize hby hzs (by decide) _ n _ own.1 ⟨b, 0, none⟩ 1 d (txv x) rfl
    (fun j u hu => by
      rw [add_plain']
      match j, hu with
      | 0, hu => simp [txv] at hu; subst hu; exact R.1
      | 1, hu => simp [txv] at hu; subst hu; exact R.2.1
      | 2, hu => simp [txv] at hu; subst hu; exact R.2.2.1
      | 3, hu => simp [txv] at hu; subst hu; exact R.2.2.2) (fun u hu => by simp [txv] at hu; rcases hu with rfl | rfl | rfl | rfl <;> rfl) h63 hb own.2.1
  obtain ⟨A', c', rfl⟩ := form_of_own h2
  have hlt := own.1.lt
  have hrow : ∀ t, t ∈ ts ++ [x] → ∀ g, t.A = some g → some g.block ≠ (Value.slice A n c).ownBlock := fun t ht g hA e => by
    cases A with
    | none => cases e
    | some r =>
      simp only [Value.ownBlock, Option.some.injEq] at e
      rcases List.mem_append.1 ht with ht | ht
      · exact own.2.2.2.2 t ht g hA r rfl e
      · rw [List.mem_singleton] at ht
        subst ht
        exact hF g hA r rfl e
  have hfar : ∀ t, t ∈ ts ++ [x] → TFar W base t := fun t ht => by
    rcases List.mem_append.1 ht with ht | ht
    · exact own.2.2.2.1 t ht
    · rw [List.mem_singleton] at ht
      subst ht
      exact F
  refine ⟨A', c', w', hrun, ⟨by simpa [txv] using h2, Nat.le_trans own.2.1 h3.size, by simp [own.2.2.1], fun t ht => (hfar t ht).past h3 (hrow t ht), fun t ht g hA r hr => ?_⟩, (Below.refl _ _).grown h3 own.2.1 fun g hg => (hlt g hg).1⟩
  subst hr
  intro e
  have hg := ((hfar t ht).2 g hA).2
  simp only [Value.ownBlock] at h5
  rcases h5 with h5 | h5
  · exact hrow t ht g hA (by rw [e]; simpa [Value.ownBlock] using h5)
  · simp at h5
    omega

/-- 'append(s, x)' of one image: its cells have just been laid. -/
theorem wpList_app1I (W : World) (hgd : o.guard = none) (s x : Operand) (t : TypeId) (ho : o.op = .call { callee := .builtin .append, args := #[s, x], argTypes := #[t, t] })
    {e : TypeId} (E : ElemI P t e) {base n c : Nat} {A : Option Addr} {ts : List Tx} (own : OwnI W base e A n c ts) (hs : a.eval s = .slice A n c)
    {f wd hgt : Int} {l : List Int} {A1 : Option Addr} {n1 c1 : Nat} (F : TFar W base ⟨⟨f, wd, hgt, l⟩, A1, n1, c1⟩) (hF : ∀ g, A1 = some g → ∀ r, A = some r → g.block ≠ r.block) (hx : a.eval x = .slice (some ⟨W.heap.size, 0, none⟩) 1 1) (h63 : n + 1 ≤ maxLen) (hb : (n + 1) * 48 ≤ 140737488355328)
    (h : ∀ A' c' W1, OwnI W1 base e A' (n + 1) c' (ts ++ [⟨⟨f, wd, hgt, l⟩, A1, n1, c1⟩]) → Below base W W1 → wpList P ops Q rest (a.put o.dst (.slice A' (n + 1) c')) W1) : wpList P ops Q (o :: rest) a (W.alloc (.cells #[.int .i64 f, .int .i64 wd, .int .i64 hgt, .slice A1 n1 c1] e)) := by
  have BW : Below W.heap.size W (W.alloc (.cells #[.int .i64 f, .int .i64 wd, .int .i64 hgt, .slice A1 n1 c1] e)) := (Below.refl _ _).alloc (Nat.le_refl _) _
  refine wpList_plain hgd fun K hK => ?_
  obtain ⟨A', c', W1, hrun, h2, h3⟩ := run_appI (P := P) (ty := o.type) (W.alloc (.cells #[.int .i64 f, .int .i64 wd, .int .i64 hgt, .slice A1 n1 c1] e)) E (own.on BW) (F.on BW) hF (b := W.heap.size) (d := 1) ⟨by simp, by simp, by simp, by simp⟩ h63 hb
  unfold Oper.wp execOp
  simp only [ho, resolve, invoke, builtin, Sem.run_bind, Sem.run_pure, Result.andThen_ok, List.map_toArray, List.map_cons, List.map_nil, hs, hx]
  rw [hrun]
  exact hK _ _ (h _ _ _ h2 ((BW.mono own.2.1).trans h3))

/-- A block of one cell, that may be written. -/
def XBox (w : World) (b : Nat) (v : Value) : Prop := w.cell? ⟨b, 0, none⟩ = some v ∧ w.frozen? ⟨b, 0, none⟩ = false
theorem XBox.lt {w : World} {b : Nat} {v : Value} (h : XBox w b v) : b < w.heap.size := block_lt_of_cell h.1
theorem XBox.on {w w' : World} {b : Nat} {v : Value} (h : XBox w b v) (k : Below w.heap.size w w') : XBox w' b v := ⟨cell_below k h.1, frozen_below k h.1 h.2⟩
theorem XBox.below {w w' : World} {b B : Nat} {v : Value} (h : XBox w b v) (hb : b < B) (k : Below B w w') : XBox w' b v := ⟨(k.cell (p := ⟨b, 0, none⟩) hb).trans h.1, (k.frozen (p := ⟨b, 0, none⟩) hb).trans h.2⟩
theorem XBox.made (w : World) (v : Value) (t : TypeId) : XBox (w.alloc (.cells #[v] t)) w.heap.size v := ⟨box_cell w _ t 0 v rfl, by simp⟩

/-- A texture's box written: one cell that holds a slice. -/
theorem wpList_txset {W : World} {b : Nat} {v0 : Value} {A' : Option Addr} {n' c' : Nat} (hg : o.guard = none) (t : TypeId) (x y : Operand) (ho : o.op = .store t x y)
    (hx : a.eval x = .pointer (some ⟨b, 0, none⟩)) (hy : a.eval y = .agg #[.slice A' n' c']) (KX : XBox W b v0) (T : (P.info? t).map (·.size) = some 1)
    (H : ∀ V, XBox V b (.slice A' n' c') → Below b W V → W.grownBy V (some b) → wpList P ops Q rest (a.put o.dst undef) V) : wpList P ops Q (o :: rest) a W := by
  obtain ⟨K, hf⟩ := KX
  refine wpList_plain hg fun K' hK => ?_
  have hs := run_storeCells_cells (P := P) b 0 [.slice A' n' c'] 0 W (fun j hj => by
    match j, hj with
    | 0, _ => simp [K]) (fun j hj => by
    match j, hj with
    | 0, _ => simpa using hf) (by simp [Value.oneCell'])
  have hv : (storeVar t ⟨b, 0, none⟩ (.agg #[.slice A' n' c'])).run P W = .ok () (W.setCells b (0 + 0) [.slice A' n' c']) := by
    cases hq : P.info? t with
    | none => simp [hq] at T
    | some i =>
      have hz : i.size = 1 := by simpa [hq] using T
      simpa [storeVar, sizeOf, typeInfo, hq, Value.cells, hz] using hs
  unfold Oper.wp execOp
  simp only [ho, hx, hy, Instr.storeAt, Instr.sureAddr, Sem.run_bind, Sem.run_pure, Result.andThen_ok, hv]
  have e : W.setCells b (0 + 0) [.slice A' n' c'] = W.setCell ⟨b, 0, none⟩ (.slice A' n' c') := rfl
  rw [e]
  refine hK _ _ (H _ ⟨?_, ?_⟩ ((Below.refl _ _).setCell (Nat.le_refl b) _) (grownBy_setCell W b 0 _))
  · simp [go_sem, K]
  · simp [go_sem, hf]
end

end Go.Proofs.Ytcjlgfadjedgbaa
