/- 'append' of one element onto an owned slice at large sizes (by the library's wide law), with where the new slice lies; slices of slices of integers that a call builds. No function of a program is named here. -/
import Derived.Test.YtepammildggnmaaRowE
import Derived.Test.YtepammildggnmaaBelow
import Derived.Deep.DeepAppendWide
namespace Go.Proofs.Ytepammildggnmaa
open Go.ChangeShapes Go.WideShapes Go.RowKit

section
variable {P : Program} {ops : Array Oper} {rest : List Oper} {o : Oper} {a : Act} {Q : Exit → Act → World → Prop} {α : Type} {enc : α → List Value} {k : Nat}

theorem run_appW1 (W : World) {t ty e : TypeId} {i : TypeInfo} {z : Value} {bytes : Nat} (ht : P.underlying t = some (.slice e)) (hi : P.info? e = some i) (hz : i.zero = some z) (hzs : z.cells.size = k) (hsize : i.size = k) (hby : i.bytes = bytes) (hk : 0 < k)
    {base n c : Nat} {A : Option Addr} {xs : List Value} (own : W.ownsRow base e k (.slice A n c) n xs) (hbase : base ≤ W.heap.size) {d : Nat} {ad : Addr} {news : List Value} (hl : news.length = 1 * k)
    (src : ∀ j u, news[j]? = some u → W.cell? (ad.add j) = some u) (h1 : ∀ u ∈ news, u.oneCell' = true) (h63 : n + 1 ≤ maxLen) (hb : ((n + 1) + (n + 1) / 4 + 192) * bytes ≤ 281474976710656) :
    ∃ A' c' W1, (Builtin.append_ #[t, t] ty #[.slice A n c, .slice (some ad) 1 d]).run P W = .ok (.slice A' (n + 1) c') W1 ∧ W1.ownsRow base e k (.slice A' (n + 1) c') (n + 1) (xs ++ news) ∧ W.grownBy W1 (Value.slice A n c).ownBlock ∧ Apart W W1 A A' := by
  obtain ⟨v', w', hrun, h2, h3, _⟩ := run_append_own_wide (P := P) W base t ty e i z k bytes ht hi hz hsize hby hzs hk _ n _ own ad 1 d news hl src h1 h63 hb hbase
  obtain ⟨A', c', rfl⟩ := form_of_own h2
  have hsm : ((n + 1 : Nat) : Int) ≤ 9223372036854775807 := by simp only [maxLen] at h63; omega
  have loc : (∃ r r', A = some r ∧ A' = some r' ∧ r.block = r'.block) ∨ (∃ r', A' = some r' ∧ r'.block = W.heap.size) := by
    rcases own.2 with ⟨hv, h0⟩ | ⟨g, cap, cur, hv, hbg, hg, hnc, hcm, hcs, htake⟩
    · simp only [Value.slice.injEq] at hv
      obtain ⟨rfl, rfl, rfl⟩ := hv
      have hr := run_append_nil (P := P) W t ty e i z ht hi hz ad 1 d news (by rw [hl, hsize]) src (by omega) (by omega) (by rw [hby]; exact Nat.le_trans (Nat.mul_le_mul_right _ (by omega)) hb)
      rw [hrun] at hr
      simp only [Result.ok.injEq, Value.slice.injEq] at hr
      exact .inr ⟨_, hr.1.1, rfl⟩
    · simp only [Value.slice.injEq] at hv
      obtain ⟨rfl, _, rfl⟩ := hv
      by_cases hroom : n + 1 ≤ c
      · have hfit : n * i.size + news.length ≤ cur.size := by rw [hl, hcs, hsize, ← Nat.add_mul]; exact Nat.mul_le_mul_right _ hroom
        have hr := run_append_room (P := P) (ty := ty) W t e i ht hi g n c cur hg ad 1 d news (by rw [hl, hsize]) src h1 hroom hfit
        rw [hrun] at hr
        simp only [Result.ok.injEq, Value.slice.injEq] at hr
        exact .inl ⟨_, _, rfl, hr.1.1, rfl⟩
      · have hr := run_append_grow (P := P) (ty := ty) W t e i z ht hi hz ⟨g, 0, none⟩ n c xs (by rw [own.1, hsize]) (own.cells (g := g) rfl) ad 1 d news (by rw [hl, hsize]) src (by omega) hsm (by rw [hby]; exact growslice_fits_wide (by omega) hb)
        rw [hrun] at hr
        simp only [Result.ok.injEq, Value.slice.injEq] at hr
        exact .inr ⟨_, hr.1.1, rfl⟩
  refine ⟨A', c', w', hrun, h2, h3, fun g hg hr => h3.block g hg fun q => ?_, fun r' hr' => ?_, h3.size⟩
  · cases A with
    | none => cases q
    | some r => simp only [Value.ownBlock, Option.some.injEq] at q; exact hr r rfl q.symm
  · rcases loc with ⟨r, r2, hA, hA', e1⟩ | ⟨r2, hA', e1⟩
    · rw [hA'] at hr'; cases hr'; exact .inl ⟨r, hA, e1⟩
    · rw [hA'] at hr'; cases hr'; exact .inr (by omega)

/-- 'append(s, v)' of one element onto an owned slice; its cells have just been laid. -/
theorem wpList_app1W (W : World) (hgd : o.guard = none) (s x : Operand) (t : TypeId) (ho : o.op = .call { callee := .builtin .append, args := #[s, x], argTypes := #[t, t] })
    {e : TypeId} {bytes : Nat} (N : Enc enc k) (E : ElemE P t e k bytes) {base n c : Nat} {A : Option Addr} {l : List α} (own : OwnE enc k W base e A n c l) (hs : a.eval s = .slice A n c)
    (v : α) {cs : Array Value} (hcs : cs = (enc v).toArray) (hx : a.eval x = .slice (some ⟨W.heap.size, 0, none⟩) 1 1) (h63 : n + 1 ≤ maxLen) (hb : ((n + 1) + (n + 1) / 4 + 192) * bytes ≤ 281474976710656)
    (h : ∀ A' c' W1, OwnE enc k W1 base e A' (n + 1) c' (l ++ [v]) → Below base W W1 → Apart W W1 A A' → wpList P ops Q rest (a.put o.dst (.slice A' (n + 1) c')) W1) : wpList P ops Q (o :: rest) a (W.alloc (.cells cs e)) := by
  subst hcs
  have BW : Below W.heap.size W (W.alloc (.cells (enc v).toArray e)) := (Below.refl _ _).alloc (Nat.le_refl _) _
  refine wpList_plain hgd fun K hK => ?_
  obtain ⟨ht, i, z, hi, hz, hzs, hsize, hby⟩ := E
  have own' := own.on BW
  obtain ⟨A', c', W1, hrun, h2, h3, h4⟩ := run_appW1 (P := P) (ty := o.type) (W.alloc (.cells (enc v).toArray e)) ht hi hz hzs hsize hby N.pos own'.1 own'.2.1 (ad := ⟨W.heap.size, 0, none⟩) (d := 1) (news := enc v) (by rw [N.len, Nat.one_mul])
    (fun j u hu => by rw [add_plain', Nat.zero_add]; simpa using hu) (N.one v) h63 hb
  unfold Oper.wp execOp
  simp only [ho, resolve, invoke, builtin, Sem.run_bind, Sem.run_pure, Result.andThen_ok, List.map_toArray, List.map_cons, List.map_nil, hs, hx]
  rw [hrun]
  exact hK _ _ (h _ _ _ ⟨by simpa using h2, Nat.le_trans own'.2.1 h3.size, by simp [own.2.2]⟩ ((BW.mono own.2.1).trans ((Below.refl _ _).grown h3 own'.2.1 fun g hg => (own'.1.lt g hg).1)) (h4.trans BW))
end

/-! ### slices of slices of integers -/

/-- A slice of integers as it lies in memory. -/
structure Rw where
  A : Option Addr
  n : Nat
  c : Nat
  l : List Int
instance : Inhabited Rw := ⟨⟨none, 0, 0, []⟩⟩
def rwv (r : Rw) : List Value := [.slice r.A r.n r.c]
theorem rwEnc : Enc rwv 1 := ⟨fun _ => rfl, by decide, fun x v hv => by simp [rwv] at hv; subst hv; rfl⟩

/-- n slices from A on, each of which reads as a list. -/
def RdR (w : World) (B : Nat) (k : IntKind) (A : Option Addr) (n : Nat) (rs : List Rw) : Prop := RdE rwv 1 w B A n rs ∧ ∀ r ∈ rs, Rd w B k r.A r.n r.l

section
variable {w w' : World} {B B' n : Nat} {k : IntKind} {A : Option Addr} {rs : List Rw}
theorem RdR.len (h : RdR w B k A n rs) : rs.length = n := h.1.len
theorem RdR.below (h : RdR w B k A n rs) (q : Below B w w') : RdR w' B k A n rs := ⟨h.1.below q, fun r hr => (h.2 r hr).below q⟩
theorem RdR.more (h : RdR w B k A n rs) (q : B ≤ B') : RdR w B' k A n rs := ⟨h.1.more q, fun r hr => (h.2 r hr).more q⟩
theorem RdR.on (h : RdR w w.heap.size k A n rs) (q : Below w.heap.size w w') : RdR w' w'.heap.size k A n rs := (h.below q).more q.size
theorem RdR.nil (w : World) (B : Nat) (k : IntKind) (A : Option Addr) : RdR w B k A 0 [] := ⟨RdE.nil _ _ _ _ _, by simp⟩
/-- Slice j. -/
theorem RdR.at_ {j : Nat} (h : RdR w B k A n rs) (hj : j < n) : ∃ b off r, A = some ⟨b, off, none⟩ ∧ b < B ∧ w.cell? ⟨b, off + j, none⟩ = some (.slice r.A r.n r.c) ∧ Rd w B k r.A r.n r.l ∧ Hid (rs[j]? = some r) := by
  obtain ⟨b, off, r, hA, hb, hc, hr⟩ := h.1.at_ hj
  have c0 := hc 0 _ rfl
  rw [Nat.mul_one, Nat.add_zero] at c0
  exact ⟨b, off, r, hA, hb, c0, h.2 r (List.mem_of_getElem? hr.out), hr⟩
end

/-- A slice of slices that a call builds: its own row and the rows of its slices lie from 'base' on, below h; none of them in its own row. -/
def OwnR (w : World) (base h : Nat) (e : TypeId) (k : IntKind) (A : Option Addr) (n c : Nat) (rs : List Rw) : Prop :=
  OwnE rwv 1 w base e A n c rs ∧ h ≤ w.heap.size ∧ (∀ q, A = some q → q.block < h) ∧ (∀ r ∈ rs, Rd w h k r.A r.n r.l ∧ ∀ g, r.A = some g → g.block < h ∧ ∀ q, A = some q → g.block ≠ q.block)

section
variable {w w' : World} {base h n c : Nat} {e : TypeId} {k : IntKind} {A : Option Addr} {rs : List Rw}

theorem OwnR.rd (o : OwnR w base h e k A n c rs) : RdR w w.heap.size k A n rs := ⟨o.1.rd rwEnc, fun r hr => (o.2.2.2 r hr).1.more o.2.1⟩
theorem OwnR.nil (w : World) (base h : Nat) (e : TypeId) (k : IntKind) (hb : base ≤ w.heap.size) (hh : h ≤ w.heap.size) : OwnR w base h e k none 0 0 [] := ⟨OwnE.nil0 _ _ _ _ _ hb, hh, by simp, by simp⟩
/-- Nothing below h has changed. -/
theorem OwnR.keep (o : OwnR w base h e k A n c rs) (B : Below h w w') : OwnR w' base h e k A n c rs :=
  ⟨o.1.stay (fun g hg => B.block _ (o.2.2.1 g hg)) (Nat.le_trans o.1.2.1 B.size), Nat.le_trans o.2.1 B.size, o.2.2.1, fun r hr => ⟨(o.2.2.2 r hr).1.below B, (o.2.2.2 r hr).2⟩⟩
/-- h may be more. -/
theorem OwnR.up {h' : Nat} (o : OwnR w base h e k A n c rs) (hh : h ≤ h') (hw : h' ≤ w.heap.size) : OwnR w base h' e k A n c rs :=
  ⟨o.1, hw, fun q hq => Nat.lt_of_lt_of_le (o.2.2.1 q hq) hh, fun r hr => ⟨(o.2.2.2 r hr).1.more hh, fun g hg => ⟨Nat.lt_of_lt_of_le ((o.2.2.2 r hr).2 g hg).1 hh, ((o.2.2.2 r hr).2 g hg).2⟩⟩⟩
/-- A slice joins, whose row lies from h on. -/
theorem OwnR.join {A' : Option Addr} {c' : Nat} {r : Rw} (o : OwnR w base h e k A n c rs) (R : Rd w w.heap.size k r.A r.n r.l) (hr : ∀ g, r.A = some g → h ≤ g.block ∧ g.block < w.heap.size)
    (own : OwnE rwv 1 w' base e A' (n + 1) c' (rs ++ [r])) (H : Apart w w' A A') : OwnR w' base w'.heap.size e k A' (n + 1) c' (rs ++ [r]) := by
  have hlt : ∀ q, A' = some q → q.block < w'.heap.size := fun q hq => (own.lt hq).2
  have hA : ∀ q, A = some q → q.block < h := o.2.2.1
  refine ⟨own, Nat.le_refl _, hlt, fun x hx => ?_⟩
  have hfar : (Rd w w.heap.size k x.A x.n x.l) ∧ ∀ g, x.A = some g → g.block < w.heap.size ∧ ∀ q, A = some q → g.block ≠ q.block := by
    rcases List.mem_append.1 hx with hx | hx
    · exact ⟨(o.2.2.2 x hx).1.more o.2.1, fun g hg => ⟨Nat.lt_of_lt_of_le ((o.2.2.2 x hx).2 g hg).1 o.2.1, ((o.2.2.2 x hx).2 g hg).2⟩⟩
    · rw [List.mem_singleton] at hx
      subst hx
      exact ⟨R, fun g hg => ⟨(hr g hg).2, fun q hq e => by have := (hr g hg).1; have := hA q hq; omega⟩⟩
  refine ⟨⟨hfar.1.1, hfar.1.2.1, fun hn => ?_⟩, fun g hg => ⟨Nat.lt_of_lt_of_le (hfar.2 g hg).1 H.2.2, fun q hq e => ?_⟩⟩
  · obtain ⟨b, off, hxA, hb, hc⟩ := hfar.1.2.2 hn
    refine ⟨b, off, hxA, Nat.lt_of_lt_of_le hb H.2.2, fun j y hy => ?_⟩
    rw [World.cell?_of_block (a := ⟨b, off + j, none⟩) (H.same hb fun q hq => ((hfar.2 _ hxA).2 q hq).symm)]
    exact hc j y hy
  · rcases H.2.1 q hq with ⟨r0, h0, e0⟩ | e0
    · exact (hfar.2 g hg).2 r0 h0 (by omega)
    · have := (hfar.2 g hg).1; omega
end

end Go.Proofs.Ytepammildggnmaa
