/- The reader of the reference: its block, its place; the frame of its methods. Written by tools/gen/genR1.py. -/
import Derived.Test.YtjpkcgepdfpbnaaGreatDoorY7
import Derived.Test.YtjpkcgepdfpbnaaGreatDoorY2
import Derived.Test.YtjpkcgepdfpbnaaGreatDoorY15
import Derived.Deep.LoopGhost
import Derived.WalkMore
namespace Go.Proofs.YtjpkcgepdfpbnaaGreatDoor.Rf
open Go.RowKit Go.Sort Go.ChangeShapes Go.WideShapes
set_option linter.unusedVariables false

/-- The reader in block b: n tokens at A, the place, whether it is bad. -/
structure RX (w : World) (b : Nat) (A : Option Addr) (n c at_ : Nat) (toks : List Tk) (bad : Bool) : Prop where
  c0 : w.cell? ⟨b, 0, none⟩ = some (.slice A n c)
  c1 : w.cell? ⟨b, 1, none⟩ = some (.int .i64 (at_ : Int))
  c2 : w.cell? ⟨b, 2, none⟩ = some (.bool bad)
  fre : ∀ i, w.frozen? ⟨b, i, none⟩ = false
  tk : RdT w b A n toks
  hn : n ≤ 4611686018427387904

section
variable {w w' : World} {b n c at_ : Nat} {A : Option Addr} {toks : List Tk} {bad : Bool}

theorem RX.lt (h : RX w b A n c at_ toks bad) : b < w.heap.size := block_lt_of_cell h.c0
theorem RX.stay (h : RX w b A n c at_ toks bad) (q : w'.heap[b]? = w.heap[b]?) (B : Below b w w') : RX w' b A n c at_ toks bad :=
  ⟨(World.cell?_of_block (a := ⟨b, 0, none⟩) q).trans h.c0, (World.cell?_of_block (a := ⟨b, 1, none⟩) q).trans h.c1, (World.cell?_of_block (a := ⟨b, 2, none⟩) q).trans h.c2, fun i => (World.frozen?_of_block (a := ⟨b, i, none⟩) q).trans (h.fre i), h.tk.below B, h.hn⟩
theorem RX.on (h : RX w b A n c at_ toks bad) (B : Below w.heap.size w w') : RX w' b A n c at_ toks bad := h.stay (B.block b h.lt) (B.mono (Nat.le_of_lt h.lt))
theorem RX.set1 (h : RX w b A n c at_ toks bad) (q : Nat) : RX (w.setCell ⟨b, 1, none⟩ (.int .i64 (q : Int))) b A n c q toks bad :=
  ⟨by rw [World.cell?_setCell_other _ _ _ _ (by intro e; injection e; omega)]; exact h.c0, World.cell?_setCell_same _ _ _ h.c1, by rw [World.cell?_setCell_other _ _ _ _ (by intro e; injection e; omega)]; exact h.c2, fun i => by rw [World.frozen?_setCell]; exact h.fre i, h.tk.below (below_set _ _), h.hn⟩
theorem RX.set2 (h : RX w b A n c at_ toks bad) (q : Bool) : RX (w.setCell ⟨b, 2, none⟩ (.bool q)) b A n c at_ toks q :=
  ⟨by rw [World.cell?_setCell_other _ _ _ _ (by intro e; injection e; omega)]; exact h.c0, by rw [World.cell?_setCell_other _ _ _ _ (by intro e; injection e; omega)]; exact h.c1, World.cell?_setCell_same _ _ _ h.c2, fun i => by rw [World.frozen?_setCell]; exact h.fre i, h.tk.below (below_set _ _), h.hn⟩
theorem RX.here (X : RX w b A n c at_ toks bad) (g : Gd (toks.drop at_)) :
    at_ < n ∧ ∃ tb to_, A = some ⟨tb, to_, none⟩ ∧ tb < b ∧ w.rangeAt tb (to_ + at_ * 4) (tokC (hdT (toks.drop at_))) := by
  have hlt : at_ < toks.length := by
    rcases Nat.lt_or_ge at_ toks.length with q | q
    · exact q
    · exact absurd (List.drop_eq_nil_of_le q) g.ne
  rw [X.tk.len] at hlt
  obtain ⟨tb, to_, x, hA, hb, hc, hx⟩ := X.tk.at_ hlt
  refine ⟨hlt, tb, to_, hA, hb, ?_⟩
  have e : hdT (toks.drop at_) = x := by
    unfold hdT
    rw [List.head?_drop, hx.out]
    rfl
  rw [e]
  exact hc
end

/-- The reader in block b is at place s; behind an error it stays at the error's token. -/
def St (w : World) (b : Nat) (s : PS) : Prop := Gd s.1 ∧ (0 < s.2 → s.2 = (hdT s.1).ln) ∧ ∃ A n c at_ toks, RX w b A n c at_ toks (decide (0 < s.2)) ∧ s.1 = toks.drop at_

section
variable {w w' : World} {b : Nat} {s : PS}
theorem St.gd (h : St w b s) : Gd s.1 := h.1
theorem St.lt (h : St w b s) : b < w.heap.size := by obtain ⟨_, _, A, n, c, at_, toks, X, _⟩ := h; exact X.lt
theorem St.on (h : St w b s) (B : Below w.heap.size w w') : St w' b s := by obtain ⟨g, l, A, n, c, at_, toks, X, e⟩ := h; exact ⟨g, l, A, n, c, at_, toks, X.on B, e⟩
theorem St.but {c : Nat} (h : St w b s) (K : But c w w') (hc : b < c) : St w' b s := by
  obtain ⟨g, l, A, n, cc, at_, toks, X, e⟩ := h
  have hl := X.lt
  exact ⟨g, l, A, n, cc, at_, toks, X.stay (K.block b hl (by omega)) ⟨K.os, K.tape, K.output, K.size, fun k hk => K.block k (by omega) (by omega)⟩, e⟩
theorem St.advance {n c at_ : Nat} {A : Option Addr} {toks : List Tk} (X : RX w b A n c at_ toks (decide (0 < s.2))) (h0 : ¬ 0 < s.2) (e : s.1 = toks.drop at_) (g : Gd (adv s).1) : St (w.setCell ⟨b, 1, none⟩ (.int .i64 ((at_ : Int) + 1))) b (adv s) :=
  ⟨g, fun h => absurd h h0, A, n, c, at_ + 1, toks, X.set1 (at_ + 1), by unfold adv; rw [e]; exact List.tail_drop⟩
theorem St.bad (h : St w b s) : St (w.setCell ⟨b, 2, none⟩ (.bool true)) b (fl s) := by
  obtain ⟨g, l, A, n, c, at_, toks, X, e⟩ := h
  unfold fl
  split
  · rename_i q
    refine ⟨g, l, A, n, c, at_, toks, ?_, e⟩
    rw [decide_eq_true q]
    exact X.set2 true
  · rename_i q
    have hl : 0 < (hdT s.1).ln := by have := g.ln; omega
    refine ⟨g, fun _ => rfl, A, n, c, at_, toks, ?_, e⟩
    show RX _ b A n c at_ toks (decide (0 < (hdT s.1).ln))
    rw [decide_eq_true hl]
    exact X.set2 true
end

structure Fr (D0 : Nat → Prop) (w W : World) (b : Nat) (s : PS) (xs : List (Nat × List Value)) (ts : List (Option Addr × Nat × List Ex)) : Prop where
  st : St W b s
  bb : But b w W
  lt : b < w.heap.size
  d0 : ∀ k, D0 k → k < w.heap.size ∧ k ≠ b
  bx : ∀ p ∈ xs, EBox W p.1 p.2 ∧ w.heap.size ≤ p.1 ∧ p.1 < W.heap.size
  dis : xs.Pairwise fun p q => p.1 ≠ q.1
  tr : ∀ t ∈ ts, RdX W (nb D0 w W xs) t.1 t.2.1 t.2.2

section
variable {D0 D : Nat → Prop} {w W V W1 : World} {b c n : Nat} {s s1 : PS} {xs : List (Nat × List Value)} {ts : List (Option Addr × Nat × List Ex)} {A : Option Addr} {l : List Ex}

theorem Fr.start (S : St w b s) (d0 : ∀ k, D0 k → k < w.heap.size ∧ k ≠ b) : Fr D0 w w b s [] [] := ⟨S, But.refl _ _, S.lt, d0, by simp, .nil, by simp⟩
theorem Fr.start0 (S : St w b s) : Fr no0 w w b s [] [] := Fr.start S fun _ h => h.elim
theorem Fr.tree (F : Fr D0 w W b s xs ts) (R : RdX W (nb D0 w W xs) A n l) : Fr D0 w W b s xs ((A, n, l) :: ts) :=
  ⟨F.st, F.bb, F.lt, F.d0, F.bx, F.dis, fun t ht => by rcases List.mem_cons.1 ht with rfl | ht; exact R; exact F.tr t ht⟩
theorem Fr.start1 (S : St w b s) (d0 : ∀ k, D0 k → k < w.heap.size ∧ k ≠ b) (R : RdX w D0 A n l) : Fr D0 w w b s [] [(A, n, l)] :=
  (Fr.start S d0).tree (R.keep (fun _ _ => rfl) fun k hk => .inl hk)

theorem Fr.nbW (F : Fr D0 w W b s xs ts) {k : Nat} (h : nb D0 w W xs k) : k < W.heap.size ∧ k ≠ b ∧ ∀ p ∈ xs, p.1 ≠ k := by
  rcases h with h | ⟨h1, h2, h3⟩
  · have h0 := F.d0 k h
    have h1 := F.bb.size
    exact ⟨by omega, h0.2, fun p hp => by have := (F.bx p hp).2.1; omega⟩
  · have := F.lt
    exact ⟨h2, by omega, h3⟩

theorem Fr.call (F : Fr D0 w W b s xs ts) (S1 : St W1 b s1) (B1 : But b W W1) : Fr D0 w W1 b s1 xs ts :=
  ⟨S1, F.bb.trans B1, F.lt, F.d0, fun p hp => by
    obtain ⟨h1, h2, h3⟩ := F.bx p hp
    have := F.lt
    exact ⟨h1.stay (B1.block _ h3 (by omega)), h2, Nat.lt_of_lt_of_le h3 B1.size⟩, F.dis, fun t ht =>
    (F.tr t ht).keep (fun k hk => B1.block k (F.nbW hk).1 (F.nbW hk).2.1) fun k hk => hk.imp id fun ⟨h1, h2, h3⟩ => ⟨h1, Nat.lt_of_lt_of_le h2 B1.size, h3⟩⟩

theorem Fr.below (F : Fr D0 w W b s xs ts) (B : Below W.heap.size W W1) : Fr D0 w W1 b s xs ts := F.call (F.st.on B) (But.of B)

/-- A block of the call's own that is none of the frame's has changed. -/
theorem Fr.at_ (F : Fr D0 w W b s xs ts) (K : But c W W1) (hc : w.heap.size ≤ c) (hx : ∀ p ∈ xs, p.1 ≠ c) (ht : ∀ t ∈ ts, RdX W (nb D0 w W ((c, []) :: xs)) t.1 t.2.1 t.2.2) : Fr D0 w W1 b s xs ts := by
  have hb := F.lt
  refine ⟨F.st.but K (by omega), F.bb.at_ K hc, F.lt, F.d0, fun p hp => ?_, F.dis, fun t h => (ht t h).keep (fun k hk => ?_) fun k hk => ?_⟩
  · obtain ⟨h1, h2, h3⟩ := F.bx p hp
    exact ⟨h1.stay (K.block _ h3 (hx p hp)), h2, Nat.lt_of_lt_of_le h3 K.size⟩
  · rcases hk with hk | ⟨h1, h2, h3⟩
    · have := F.d0 k hk
      have := F.bb.size
      exact K.block k (by omega) (by omega)
    · exact K.block k h2 fun e => h3 _ (List.mem_cons_self ..) e.symm
  · exact hk.imp id fun ⟨h1, h2, h3⟩ => ⟨h1, Nat.lt_of_lt_of_le h2 K.size, fun p hp => h3 p (List.mem_cons_of_mem _ hp)⟩
theorem Fr.map_ (F : Fr D0 w W b s xs []) (K : But c W W1) (hc : w.heap.size ≤ c) (hx : ∀ p ∈ xs, p.1 ≠ c) : Fr D0 w W1 b s xs [] := F.at_ K hc hx (by simp)

theorem Fr.got (F : Fr D0 w W b s xs ts) (S1 : St W1 b s1) (B1 : But b W W1) (R : RdX W1 (nd D W W1) A n l) (hD : ∀ k, D k → nb D0 w W xs k) : Fr D0 w W1 b s1 xs ((A, n, l) :: ts) :=
  (F.call S1 B1).tree (R.keep (fun _ _ => rfl) fun k hk => by
    rcases hk with hk | ⟨h1, h2⟩
    · exact (hD k hk).imp id fun ⟨h1, h2, h3⟩ => ⟨h1, Nat.lt_of_lt_of_le h2 B1.size, h3⟩
    · exact .inr ⟨Nat.le_trans F.bb.size h1, h2, fun p hp => by have := (F.bx p hp).2.2; omega⟩)
theorem Fr.got0 (F : Fr D0 w W b s xs ts) (S1 : St W1 b s1) (B1 : But b W W1) (R : RdX W1 (nd no0 W W1) A n l) : Fr D0 w W1 b s1 xs ((A, n, l) :: ts) := F.got S1 B1 R fun _ h => h.elim

theorem Fr.box (F : Fr D0 w W b s xs ts) (cs : Array Value) (t : TypeId) : Fr D0 w (W.alloc (.cells cs t)) b s ((W.heap.size, cs.toList) :: xs) ts := by
  have F1 := F.below (box_below W cs t)
  have hs : (W.alloc (.cells cs t)).heap.size = W.heap.size + 1 := by simp
  refine ⟨F1.st, F1.bb, F1.lt, F1.d0, fun p hp => ?_, List.pairwise_cons.2 ⟨fun p hp => by have := (F.bx p hp).2.2; simp only; omega, F.dis⟩, fun t' ht => (F.tr t' ht).keep (fun k hk => (box_below W cs t).block k (F.nbW hk).1) fun k hk => ?_⟩
  · rcases List.mem_cons.1 hp with rfl | hp
    · exact ⟨EBox.made W cs t, F.bb.size, by simp⟩
    · exact F1.bx p hp
  · have := (F.nbW hk).1
    exact hk.imp id fun ⟨h1, h2, h3⟩ => ⟨h1, by omega, fun p hp => by rcases List.mem_cons.1 hp with rfl | hp; simp only; omega; exact h3 p hp⟩

theorem Fr.box' (F : Fr D0 w W b s xs ts) (cs : Array Value) (t : TypeId) {m : Nat} (hm : W.heap.size = m) : Fr D0 w (W.alloc (.cells cs t)) b s ((m, cs.toList) :: xs) ts := by
  subst hm
  exact F.box cs t

theorem Fr.set {pre post : List (Nat × List Value)} {us vs : List Value} (F : Fr D0 w W b s (pre ++ (c, us) :: post) ts) (X : EBox V c vs) (K : But c W V) (hs : V.heap.size = W.heap.size) : Fr D0 w V b s (pre ++ (c, vs) :: post) ts := by
  have hc := F.bx (c, us) (by simp)
  have hb := F.lt
  have hd := List.pairwise_append.1 F.dis
  have hd2 := List.pairwise_cons.1 hd.2.1
  refine ⟨F.st.but K (by have := hc.2.1; simp only at this; omega), F.bb.at_ K hc.2.1, F.lt, F.d0, fun p hp => ?_, ?_, fun t ht => (F.tr t ht).keep (fun k hk => ?_) fun k hk => ?_⟩
  · have key : ∀ p ∈ pre ++ (c, us) :: post, p.1 ≠ c → EBox V p.1 p.2 ∧ w.heap.size ≤ p.1 ∧ p.1 < V.heap.size := fun p hp hne => by
      obtain ⟨h1, h2, h3⟩ := F.bx p hp
      exact ⟨h1.stay (K.block _ h3 hne), h2, by rw [hs]; exact h3⟩
    rcases List.mem_append.1 hp with hp | hp
    · exact key p (List.mem_append.2 (.inl hp)) (hd.2.2 p hp (c, us) (by simp))
    · rcases List.mem_cons.1 hp with rfl | hp
      · exact ⟨X, hc.2.1, by rw [hs]; exact hc.2.2⟩
      · exact key p (List.mem_append.2 (.inr (List.mem_cons_of_mem _ hp))) fun e => hd2.1 p hp e.symm
  · exact List.pairwise_append.2 ⟨hd.1, List.pairwise_cons.2 ⟨fun p hp => hd2.1 p hp, hd2.2⟩, fun p hp q hq => by
      rcases List.mem_cons.1 hq with rfl | hq
      · exact hd.2.2 p hp (c, us) (by simp)
      · exact hd.2.2 p hp q (by simp [hq])⟩
  · have h := F.nbW hk
    exact K.block k h.1 fun e => h.2.2 (c, us) (by simp) e.symm
  · exact hk.imp id fun ⟨h1, h2, h3⟩ => ⟨h1, by omega, fun p hp => by
      rcases List.mem_append.1 hp with hp | hp
      · exact h3 p (by simp [hp])
      · rcases List.mem_cons.1 hp with rfl | hp
        · exact h3 (c, us) (by simp)
        · exact h3 p (by simp [hp])⟩

/-- A new slice of one expression. -/
theorem Fr.made1 {x : Ex} {k : Nat} {t : TypeId} (F : Fr D0 w W b s xs ts) (ht : (A, n, x.l) ∈ ts) :
    Fr D0 w (W.alloc (.cells #[.int .i64 x.k, .int .i64 x.o, .string x.s, .int .i64 x.v, .slice A n k] t)) b s xs ((some ⟨W.heap.size, 0, none⟩, 1, [x]) :: ts) := by
  have F1 := F.below (box_below W #[.int .i64 x.k, .int .i64 x.o, .string x.s, .int .i64 x.v, .slice A n k] t)
  refine F1.tree ⟨rfl, by decide, fun _ => ⟨W.heap.size, 0, rfl, .inr ⟨F.bb.size, by simp, fun p hp => by have := (F.bx p hp).2.2; omega⟩, rowAt_cons.2 ⟨⟨A, n, k, ?_, F1.tr _ ht⟩, by rw [RowAt]; trivial⟩⟩⟩
  exact alloc_range W _ t fun j v hv => by rw [Nat.zero_add]; simpa using hv

/-- A new slice of two expressions. -/
theorem Fr.made2 {x y : Ex} {A2 : Option Addr} {n2 k k2 : Nat} {t : TypeId} (F : Fr D0 w W b s xs ts) (ht : (A, n, x.l) ∈ ts) (ht2 : (A2, n2, y.l) ∈ ts) :
    Fr D0 w (W.alloc (.cells #[.int .i64 x.k, .int .i64 x.o, .string x.s, .int .i64 x.v, .slice A n k, .int .i64 y.k, .int .i64 y.o, .string y.s, .int .i64 y.v, .slice A2 n2 k2] t)) b s xs ((some ⟨W.heap.size, 0, none⟩, 2, [x, y]) :: ts) := by
  have F1 := F.below (box_below W #[.int .i64 x.k, .int .i64 x.o, .string x.s, .int .i64 x.v, .slice A n k, .int .i64 y.k, .int .i64 y.o, .string y.s, .int .i64 y.v, .slice A2 n2 k2] t)
  refine F1.tree ⟨rfl, by decide, fun _ => ⟨W.heap.size, 0, rfl, .inr ⟨F.bb.size, by simp, fun p hp => by have := (F.bx p hp).2.2; omega⟩, rowAt_cons.2 ⟨⟨A, n, k, ?_, F1.tr _ ht⟩, rowAt_cons.2 ⟨⟨A2, n2, k2, ?_, F1.tr _ ht2⟩, by rw [RowAt]; trivial⟩⟩⟩⟩
  · exact alloc_range W _ t fun j v hv => by
      match j, hv with
      | 0, hv | 1, hv | 2, hv | 3, hv | 4, hv => exact hv
  · exact alloc_range W _ t fun j v hv => by
      match j, hv with
      | 0, hv | 1, hv | 2, hv | 3, hv | 4, hv => exact hv

theorem Fr.drop (F : Fr D0 w W b s xs ts) : Fr D0 w W b s xs [] := ⟨F.st, F.bb, F.lt, F.d0, F.bx, F.dis, by simp⟩

theorem Fr.fin (F : Fr D0 w W b s xs ts) (ht : (A, n, l) ∈ ts) : RdX W (nd D0 w W) A n l := (F.tr _ ht).keep (fun _ _ => rfl) fun k hk => hk.imp id fun ⟨h1, h2, _⟩ => ⟨h1, h2⟩
end

/-- The call returns the expression e, made of blocks of D0 and new ones, and the parser is at s'. -/
def GXD (D0 : Nat → Prop) (W : World) (b : Nat) (e : Ex) (s' : PS) (r : Ending) (w' : World) : Prop :=
  ∃ A n c, r = .returned (.agg #[.int .i64 e.k, .int .i64 e.o, .string e.s, .int .i64 e.v, .slice A n c]) ∧ RdX w' (nd D0 W w') A n e.l ∧ St w' b s' ∧ But b W w'
/-- .. and if there was no error it is the one that is meant. -/
def GX (W : World) (b : Nat) (e : Ex) (s' : PS) (r : Ending) (w' : World) : Prop := ∃ e', (s'.2 ≤ 0 → e' = e) ∧ GXD no0 W b e' s' r w'

theorem bl (w : World) (cs : Array Value) (t : TypeId) : Below w.heap.size w (w.alloc (.cells cs t)) := box_below w cs t

theorem keepT {D0 : Nat → Prop} {w W : World} {b : Nat} {s : PS} {xs : List (Nat × List Value)} {t : Option Addr × Nat × List Ex} {ts : List (Option Addr × Nat × List Ex)} (F : Fr D0 w W b s xs (t :: ts)) : Fr D0 w W b s xs [t] :=
  ⟨F.st, F.bb, F.lt, F.d0, F.bx, F.dis, fun t' ht => by rcases List.mem_singleton.1 ht with rfl; exact F.tr _ (List.mem_cons_self ..)⟩

end Go.Proofs.YtjpkcgepdfpbnaaGreatDoor.Rf

/- The reader's small methods. Written by tools/gen/genR2.py. -/
namespace Go.Proofs.YtjpkcgepdfpbnaaGreatDoor.Rf
open Go.RowKit Go.Sort Go.ChangeShapes Go.WideShapes
set_option linter.unusedVariables false

set_option maxRecDepth 100000 in
theorem peek_b (w : World) (b : Nat) (s : PS) (S : St w b s) : Calls Tryz.prog 76 #[ptr b] w fun e w' => e = .returned (.agg #[.int .i64 (hdT s.1).k, .string (tx (hdT s.1)), .int .i64 (hdT s.1).v, .int .i64 (hdT s.1).ln]) ∧ Below w.heap.size w w' := by
  have B0 := box_below w #[.int .i64 0, .string ⟨#[]⟩, .int .i64 0, .int .i64 0] 60
  obtain ⟨rest, wr⟩ := s
  obtain ⟨g, _, A, n, c, at_, toks, X, hs⟩ := S
  simp only at X hs
  subst hs
  obtain ⟨hlt, tb, to_, rfl, htb, Etk0⟩ := X.here g
  have Etk : w.rangeAt tb (to_ + at_ * 4) [.int .i64 (hdT (toks.drop at_)).k, .string (tx (hdT (toks.drop at_))), .int .i64 (hdT (toks.drop at_)).v, .int .i64 (hdT (toks.drop at_)).ln] := Etk0
  show Calls _ _ _ _ fun e w' => e = .returned (.agg #[.int .i64 (hdT (toks.drop at_)).k, .string (tx (hdT (toks.drop at_))), .int .i64 (hdT (toks.drop at_)).v, .int .i64 (hdT (toks.drop at_)).ln]) ∧ Below w.heap.size w w'
  generalize hdT (toks.drop at_) = z at Etk ⊢
  have c0 := cell_below B0 X.c0
  have c1 := cell_below B0 X.c1
  replace Etk := rangeAt_on Etk B0
  have X0 := EBox.made w #[.int .i64 0, .string ⟨#[]⟩, .int .i64 0, .int .i64 0] 60
  have BB := B0
  have hn := X.hn
  clear X Etk0 B0 g
  go_enter Tryz.func76, Tryz.ntmps76
  go_wp2_with fail
  have k_c0 := cell_regrown c0
  have k_c1 := cell_regrown c1
  refine wp_region_tail (n := 10) (by kernel_rfl) (by kernel_rfl) ?_
  simp only [List.take_succ_cons, List.take_zero, List.drop_succ_cons, List.drop_zero]
  repeat (first | (go_big_quiet_want; refine quiet_eload _ _ rfl rk_tk rfl (fun W hW => rangeAt_on Etk (below_regrown' hW)) rfl ?_; go_simp; go_big_quiet_on) | (go_big_quiet_want; refine quiet_eload _ _ rfl rk_0 rfl (fun W hW => rangeAt_on X0.1 (below_regrown' hW)) rfl ?_; go_simp; go_big_quiet_on) | go_big_quiet_step ((first | fail)) | quiet_step ((first | fail)))
  refine wpQuiet_nil ?_
  intro W hw'
  have B := below_regrown' hw'
  clear hw' k_c0 k_c1
  replace BB := bon BB B
  replace c0 := cell_below B c0
  replace c1 := cell_below B c1
  replace Etk := rangeAt_on Etk B
  replace X0 := EBox.on X0 (Nat.succ_pos _) B
  (with_reducible refine bset4 rk_tk rfl X0 rfl rfl ?_)
  intro V XV BV sV
  have h0 := XV.cell (i := 0) rfl
  have h1 := XV.cell (i := 1) rfl
  have h2 := XV.cell (i := 2) rfl
  have h3 := XV.cell (i := 3) rfl
  go_wp2_with fail
  exact bodyPost_ret (v := tkV z) (by simp [results, Tryz.results76, go_sem, *]) rfl ⟨rfl, BB.trans (BV.below (Nat.le_refl _) BB.size)⟩

/-- The class of a text that is next. -/
theorem acp_cls {s : PS} {t : ByteArray} (g : Gd s.1) (h0 : ¬ 0 < s.2) (h : tx (hdT s.1) = t) (ht : t ≠ ⟨#[]⟩) : okT (hdT s.1) ∧ cls (strL t) = cls (hdT s.1).t := by
  obtain ⟨r, wr⟩ := s
  cases r with
  | nil => exact g.elim
  | cons z r =>
    have g' : Gd (z :: r) := g
    rw [gd_cons] at g'
    have hz : hdT (z :: r) = z := rfl
    show okT (hdT (z :: r)) ∧ cls (strL t) = cls (hdT (z :: r)).t
    have h' : tx z = t := h
    rw [hz]
    rcases g' with ⟨_, _, q, _⟩ | ⟨q, _⟩
    · exact absurd q (tx_ne h' ht)
    · refine ⟨q, ?_⟩
      rw [← h']
      unfold tx
      rw [strL_of q.2.2.2.2]

theorem acp_k {s : PS} {t : ByteArray} {k : Int} (g : Gd s.1) (h : acp t s = true) (ht : t ≠ ⟨#[]⟩) (hk : k = 1 ∧ cls (strL t) = 1 ∨ k = 4 ∧ cls (strL t) = 4) : (hdT s.1).k = k := by
  have h1 := acp_ok ht h
  have h2 := acp_cls g h1.1 h1.2 ht
  have h3 := h2.1.2.2.2.1
  rw [← h2.2] at h3
  rcases hk with ⟨rfl, q⟩ | ⟨rfl, q⟩ <;> rw [q] at h3 <;> simp at h3 <;> exact h3

set_option maxRecDepth 100000 in
set_option maxHeartbeats 2000000 in
theorem sign_b (w : World) (b : Nat) (s : PS) (t : ByteArray) (S : St w b s) (ht : t ≠ ⟨#[]⟩) (hc : cls (strL t) = 4) : Calls Tryz.prog 93 #[ptr b, .string t] w fun e w' => e = .returned (.bool (acp t s)) ∧ Below w.heap.size w w' := by
  have S0 := Lib.hid S
  have f1 := fld_t
  have f2 := fld_k
  have hk := fun h => acp_k (k := 4) S.gd h ht (by first | exact .inl ⟨rfl, hc⟩ | exact .inr ⟨rfl, hc⟩)
  have ha : acp t s = (!decide (0 < s.2) && decide (tx (hdT s.1) = t)) := by
    unfold acp pk
    by_cases q : 0 < s.2
    · rw [if_pos q, decide_eq_true q]
      exact decide_eq_false fun e => ht e.symm
    · rw [if_neg q, decide_eq_false q]
      rfl
  rw [ha] at hk ⊢
  obtain ⟨_, _, A, n, c, at_, toks, X, hs⟩ := S
  have c2 := X.c2
  clear X hs
  have CP := Lib.hid (fun W S => peek_b W b s S)
  obtain ⟨z, hz⟩ : ∃ z, hdT s.1 = z := ⟨_, rfl⟩
  rw [hz] at hk CP ⊢
  have hte := tol_eq (tx z) t
  cases hb : decide (0 < s.2)
  · rw [hb] at c2 hk
    by_cases q1 : z.k = 4
    · have e1 : (z.k == 4) = true := beq_iff_eq.2 q1
      have hte2 := Lib.hid hte
      clear hk q1 hz ha hte
      go_enter Tryz.func93, Tryz.ntmps93
      go_wp2_with (first
        | (go_at_call 76; (with_reducible refine (CP.out _ S0.out).mono ?_); rintro _ W1 ⟨rfl, B⟩; have B1 := Lib.hid B; have S1 := Lib.hid (S0.out.on B); clear B)
        | (go_at_call 76; (with_reducible refine (CP.out _ S1.out).mono ?_); rintro _ W2 ⟨rfl, B⟩; have B2 := Lib.hid (bon B1.out B); clear B))
      go_ret
      exact ⟨by rw [hte2.out]; simp, B2.out⟩
    · have e1 : (z.k == 4) = false := beq_eq_false_iff_ne.2 q1
      have hx : decide (tx z = t) = false := by
        cases hd : decide (tx z = t)
        · rfl
        · rw [hd] at hk; exact absurd (hk rfl) q1
      clear hk q1 hz ha hte
      go_enter Tryz.func93, Tryz.ntmps93
      go_wp2_with (go_at_call 76; (with_reducible refine (CP.out _ S0.out).mono ?_); rintro _ W1 ⟨rfl, B⟩; have B1 := Lib.hid B; clear B)
      go_ret
      exact ⟨by rw [hx]; rfl, B1.out⟩
  · rw [hb] at c2
    clear hk hz ha hte
    go_enter Tryz.func93, Tryz.ntmps93
    go_wp2_with fail
    go_ret
    exact ⟨rfl, Below.refl _ _⟩

set_option maxRecDepth 100000 in
set_option maxHeartbeats 2000000 in
theorem word_b (w : World) (b : Nat) (s : PS) (t : ByteArray) (S : St w b s) (ht : t ≠ ⟨#[]⟩) (hc : cls (strL t) = 1) : Calls Tryz.prog 70 #[ptr b, .string t] w fun e w' => e = .returned (.bool (acp t s)) ∧ Below w.heap.size w w' := by
  have S0 := Lib.hid S
  have f1 := fld_t
  have f2 := fld_k
  have hk := fun h => acp_k (k := 1) S.gd h ht (by first | exact .inl ⟨rfl, hc⟩ | exact .inr ⟨rfl, hc⟩)
  have ha : acp t s = (!decide (0 < s.2) && decide (tx (hdT s.1) = t)) := by
    unfold acp pk
    by_cases q : 0 < s.2
    · rw [if_pos q, decide_eq_true q]
      exact decide_eq_false fun e => ht e.symm
    · rw [if_neg q, decide_eq_false q]
      rfl
  rw [ha] at hk ⊢
  obtain ⟨_, _, A, n, c, at_, toks, X, hs⟩ := S
  have c2 := X.c2
  clear X hs
  have CP := Lib.hid (fun W S => peek_b W b s S)
  obtain ⟨z, hz⟩ : ∃ z, hdT s.1 = z := ⟨_, rfl⟩
  rw [hz] at hk CP ⊢
  have hte := tol_eq (tx z) t
  cases hb : decide (0 < s.2)
  · rw [hb] at c2 hk
    by_cases q1 : z.k = 1
    · have e1 : (z.k == 1) = true := beq_iff_eq.2 q1
      have hte2 := Lib.hid hte
      clear hk q1 hz ha hte
      go_enter Tryz.func70, Tryz.ntmps70
      go_wp2_with (first
        | (go_at_call 76; (with_reducible refine (CP.out _ S0.out).mono ?_); rintro _ W1 ⟨rfl, B⟩; have B1 := Lib.hid B; have S1 := Lib.hid (S0.out.on B); clear B)
        | (go_at_call 76; (with_reducible refine (CP.out _ S1.out).mono ?_); rintro _ W2 ⟨rfl, B⟩; have B2 := Lib.hid (bon B1.out B); clear B))
      go_ret
      exact ⟨by rw [hte2.out]; simp, B2.out⟩
    · have e1 : (z.k == 1) = false := beq_eq_false_iff_ne.2 q1
      have hx : decide (tx z = t) = false := by
        cases hd : decide (tx z = t)
        · rfl
        · rw [hd] at hk; exact absurd (hk rfl) q1
      clear hk q1 hz ha hte
      go_enter Tryz.func70, Tryz.ntmps70
      go_wp2_with (go_at_call 76; (with_reducible refine (CP.out _ S0.out).mono ?_); rintro _ W1 ⟨rfl, B⟩; have B1 := Lib.hid B; clear B)
      go_ret
      exact ⟨by rw [hx]; rfl, B1.out⟩
  · rw [hb] at c2
    clear hk hz ha hte
    go_enter Tryz.func70, Tryz.ntmps70
    go_wp2_with fail
    go_ret
    exact ⟨rfl, Below.refl _ _⟩

set_option maxRecDepth 100000 in
set_option maxHeartbeats 2000000 in
theorem next_yes (w : World) (b : Nat) (s : PS) (S : St w b s) (h0 : ¬ 0 < s.2) (g : Gd (adv s).1) : Calls Tryz.prog 71 #[ptr b] w fun e w' => e = .returned (.tuple #[]) ∧ St w' b (adv s) ∧ But b w w' := by
  have hg := Lib.hid g
  have HB := Lib.hid (Int.not_lt.1 h0)
  obtain ⟨gd, _, A, n, c, at_, toks, X, hs⟩ := S
  rw [decide_eq_false h0] at X
  have hlt : at_ + 1 < n := by
    have := X.tk.len
    have h2 := g.ne
    unfold adv at h2
    rw [hs] at h2
    have h3 : 0 < (toks.drop at_).tail.length := List.length_pos_iff.2 h2
    rw [List.length_tail, List.length_drop] at h3
    omega
  have hlti : (at_ : Int) + 1 < (n : Int) := by omega
  have hn := X.hn
  have c0 := X.c0
  have c1 := X.c1
  have c2 := X.c2
  have z1 := X.fre 1
  have HX := Lib.hid X
  have HS := Lib.hid hs
  have BB := Below.refl w.heap.size w
  clear X hs g gd h0
  go_enter Tryz.func71, Tryz.ntmps71
  go_wp2_with fail
  have k_c0 := cell_regrown c0
  have k_c1 := cell_regrown c1
  have k_c2 := cell_regrown c2
  refine wp_region_quiet_below (by kernel_rfl) (by kernel_rfl) ?_
  repeat (first | go_big_quiet_step ((first | fail)) | quiet_step ((first | fail)))
  refine wpQuiet_nil ?_
  intro W hw'
  have B := below_regrown' hw'
  clear hw' k_c0 k_c1 k_c2
  replace BB := bon BB B
  replace z1 := frozen_below B c1 z1
  replace c0 := cell_below B c0
  replace c1 := cell_below B c1
  replace c2 := cell_below B c2
  go_wp2_with fail
  refine norm_end (results_none rfl _ _ _) rfl ?_
  have X2 := HX.out.on BB
  rw [← decide_eq_false (Int.not_lt.2 HB.out)] at X2
  exact ⟨rfl, St.advance X2 (Int.not_lt.2 HB.out) HS.out hg.out, (But.of BB).set _ _⟩

set_option maxRecDepth 100000 in
set_option maxHeartbeats 2000000 in
theorem next_bad (w : World) (b : Nat) (s : PS) (S : St w b s) (h0 : 0 < s.2) : Calls Tryz.prog 71 #[ptr b] w fun e w' => e = .returned (.tuple #[]) ∧ St w' b s ∧ But b w w' := by
  have S0 := Lib.hid S
  obtain ⟨gd, _, A, n, c, at_, toks, X, hs⟩ := S
  rw [decide_eq_true h0] at X
  have c0 := X.c0
  have c1 := X.c1
  have c2 := X.c2
  have BB := Below.refl w.heap.size w
  clear X hs gd h0
  go_enter Tryz.func71, Tryz.ntmps71
  go_wp2_with fail
  have k_c0 := cell_regrown c0
  have k_c1 := cell_regrown c1
  have k_c2 := cell_regrown c2
  refine wp_region_quiet_below (by kernel_rfl) (by kernel_rfl) ?_
  repeat (first | go_big_quiet_step ((first | fail)) | quiet_step ((first | fail)))
  refine wpQuiet_nil ?_
  intro W hw'
  have B := below_regrown' hw'
  clear hw' k_c0 k_c1 k_c2
  replace BB := bon BB B
  replace c0 := cell_below B c0
  replace c1 := cell_below B c1
  replace c2 := cell_below B c2
  go_wp2_with fail
  refine norm_end (results_none rfl _ _ _) rfl ?_
  exact ⟨rfl, S0.out.on BB, But.of BB⟩

set_option maxRecDepth 100000 in
set_option maxHeartbeats 2000000 in
theorem takes_b (w : World) (b : Nat) (s : PS) (t : ByteArray) (S : St w b s) (ht : t ≠ ⟨#[]⟩) (hc : cls (strL t) = 4) : Calls Tryz.prog 120 #[ptr b, .string t] w fun e w' => e = .returned (.bool (acp t s)) ∧ St w' b (acS t s) ∧ But b w w' := by
  have C := Lib.hid (sign_b w b s t S ht hc)
  have S0 := Lib.hid S
  unfold acS
  cases h : acp t s
  · rw [h] at C
    rw [if_neg (by decide)]
    clear S h hc ht
    go_enter Tryz.func120, Tryz.ntmps120
    go_wp2_with (go_at_call 93; (with_reducible refine C.out.mono ?_); rintro _ W1 ⟨rfl, B1⟩)
    go_ret
    exact ⟨rfl, S0.out.on B1, But.of B1⟩
  · rw [h] at C
    rw [if_pos rfl]
    have HN := Lib.hid (fun W S => next_yes W b s S (acp_ok ht h).1 (acp_gd ht h S0.out.gd))
    clear S h hc ht
    go_enter Tryz.func120, Tryz.ntmps120
    go_wp2_with (first
      | (go_at_call 93; (with_reducible refine C.out.mono ?_); rintro _ W1 ⟨rfl, B1⟩)
      | (go_at_call 71; (with_reducible refine (HN.out _ (S0.out.on B1)).mono ?_); rintro _ W2 ⟨rfl, S2, B2⟩))
    go_ret
    exact ⟨rfl, S2, (But.of B1).trans B2⟩

set_option maxRecDepth 100000 in
set_option maxHeartbeats 2000000 in
theorem need_b (w : World) (b : Nat) (s : PS) (t : ByteArray) (S : St w b s) (ht : t ≠ ⟨#[]⟩) (hc : cls (strL t) = 4) : Calls Tryz.prog 72 #[ptr b, .string t] w fun e w' => e = .returned (.tuple #[]) ∧ St w' b (xp t s) ∧ But b w w' := by
  have C := Lib.hid (sign_b w b s t S ht hc)
  have S0 := Lib.hid S
  unfold xp
  cases h : acp t s
  · rw [h] at C
    rw [if_neg (by decide)]
    have hfl : 0 < (fl s).2 := fl_pos S.gd
    have HN := Lib.hid (fun W S => next_bad W b (fl s) S hfl)
    clear S h hc ht hfl
    go_enter Tryz.func72, Tryz.ntmps72
    go_wp2_with (first
      | (go_at_call 93; (with_reducible refine C.out.mono ?_); rintro _ W1 ⟨rfl, B1⟩; have S1 := Lib.hid (S0.out.on B1); obtain ⟨_, _, A, n, c, at_, toks, X, hs⟩ := S1.out; have c2 := X.c2; have z2 := X.fre 2; clear X hs)
      | (go_at_call 71; (with_reducible refine (HN.out _ S1.out.bad).mono ?_); rintro _ W2 ⟨rfl, S2, B2⟩))
    refine norm_end (results_none rfl _ _ _) rfl ?_
    exact ⟨rfl, S2, ((But.of B1).set _ _).trans B2⟩
  · rw [h] at C
    rw [if_pos rfl]
    have HN := Lib.hid (fun W S => next_yes W b s S (acp_ok ht h).1 (acp_gd ht h S0.out.gd))
    clear S h hc ht
    go_enter Tryz.func72, Tryz.ntmps72
    go_wp2_with (first
      | (go_at_call 93; (with_reducible refine C.out.mono ?_); rintro _ W1 ⟨rfl, B1⟩)
      | (go_at_call 71; (with_reducible refine (HN.out _ (S0.out.on B1)).mono ?_); rintro _ W2 ⟨rfl, S2, B2⟩))
    refine norm_end (results_none rfl _ _ _) rfl ?_
    exact ⟨rfl, S2, (But.of B1).trans B2⟩

set_option maxRecDepth 100000 in
set_option maxHeartbeats 2000000 in
theorem name_b (w : World) (b : Nat) (s : PS) (S : St w b s) : Calls Tryz.prog 118 #[ptr b] w fun e w' => e = .returned (.string (nmT s)) ∧ St w' b (nmS s) ∧ But b w w' := by
  have S0 := Lib.hid S
  have CP := Lib.hid (peek_b w b s S)
  obtain ⟨z, hz⟩ : ∃ z, hdT s.1 = z := ⟨_, rfl⟩
  rw [hz] at CP
  have hpk : ¬ 0 < s.2 → pk s = z := fun h => by unfold pk; rw [if_neg h, hz]
  unfold nmT nmS
  cases h : nmq (pk s)
  · rw [if_neg (by decide), if_neg (by decide)]
    by_cases h0 : 0 < s.2
    · have hd : decide (0 < s.2) = true := decide_eq_true h0
      clear S h hz hpk h0
      go_enter Tryz.func118, Tryz.ntmps118
      go_wp2_with (go_at_call 76; (with_reducible refine CP.out.mono ?_); rintro _ W1 ⟨rfl, B⟩; have B1 := Lib.hid (B.trans ((bl W1 #[.int .i64 z.k, .string (tx z), .int .i64 z.v, .int .i64 z.ln] 60).mono B.size)); have S1 := Lib.hid (S0.out.on B1.out); obtain ⟨_, _, A, n, c, at_, toks, X, hs⟩ := S1.out; have c2 := X.c2; rw [hd] at c2; have z2 := X.fre 2; clear B X hs)
      go_ret
      exact ⟨rfl, S1.out.bad, (But.of B1.out).set _ _⟩
    · have hd : decide (0 < s.2) = false := decide_eq_false h0
      rw [hpk h0] at h
      have hq : (z.k == 1 && !kwd (tx z).toList) = false := h
      clear S h hz hpk h0
      by_cases q1 : z.k = 1
      · have e1 : (z.k == 1) = true := beq_iff_eq.2 q1
        have e2 : kwd (tx z).toList = true := by rw [e1] at hq; simpa using hq
        have hq2 := Lib.hid hq
        rw [q1] at CP
        clear hq q1 e1
        go_enter Tryz.func118, Tryz.ntmps118
        go_wp2_with (first
          | (go_at_call 76; (with_reducible refine CP.out.mono ?_); rintro _ W1 ⟨rfl, B⟩; have B1 := Lib.hid (B.trans ((bl W1 #[.int .i64 1, .string (tx z), .int .i64 z.v, .int .i64 z.ln] 60).mono B.size)); have S1 := Lib.hid (S0.out.on B1.out); obtain ⟨_, _, A, n, c, at_, toks, X, hs⟩ := S1.out; have c2 := X.c2; rw [hd] at c2; have z2 := X.fre 2; clear B X hs)
          | (go_at_call 142; (refine (rIsKeyword_q (tx z) _).mono ?_); rintro _ _ ⟨rfl, rfl⟩; rw [e2]))
        go_ret
        exact ⟨rfl, S1.out.bad, (But.of B1.out).set _ _⟩
      · have e1 : (z.k != 1) = true := bne_iff_ne.2 q1
        clear hq q1
        go_enter Tryz.func118, Tryz.ntmps118
        go_wp2_with (go_at_call 76; (with_reducible refine CP.out.mono ?_); rintro _ W1 ⟨rfl, B⟩; have B1 := Lib.hid (B.trans ((bl W1 #[.int .i64 z.k, .string (tx z), .int .i64 z.v, .int .i64 z.ln] 60).mono B.size)); have S1 := Lib.hid (S0.out.on B1.out); obtain ⟨_, _, A, n, c, at_, toks, X, hs⟩ := S1.out; have c2 := X.c2; rw [hd] at c2; have z2 := X.fre 2; clear B X hs)
        go_ret
        exact ⟨rfl, S1.out.bad, (But.of B1.out).set _ _⟩
  · rw [if_pos rfl, if_pos rfl]
    have h0 := (pk_k (nmq_k h) (by decide)).1
    have HN := Lib.hid (fun W S => next_yes W b s S h0 (nmq_gd h S0.out.gd))
    have hd : decide (0 < s.2) = false := decide_eq_false h0
    rw [hpk h0] at h ⊢
    have hq : (z.k == 1 && !kwd (tx z).toList) = true := h
    simp only [Bool.and_eq_true, Bool.not_eq_true'] at hq
    rw [beq_iff_eq.1 hq.1] at CP
    have e2 := hq.2
    clear S h hz hpk h0 hq
    go_enter Tryz.func118, Tryz.ntmps118
    go_wp2_with (first
      | (go_at_call 76; (with_reducible refine CP.out.mono ?_); rintro _ W1 ⟨rfl, B⟩; have B1 := Lib.hid (B.trans ((bl W1 #[.int .i64 1, .string (tx z), .int .i64 z.v, .int .i64 z.ln] 60).mono B.size)); have S1 := Lib.hid (S0.out.on B1.out); have XB := Lib.hid (EBox.made W1 #[.int .i64 1, .string (tx z), .int .i64 z.v, .int .i64 z.ln] 60); have hne := Lib.hid (Nat.ne_of_gt (Nat.lt_of_lt_of_le S0.out.lt B.size)); obtain ⟨_, _, A, n, c, at_, toks, X, hs⟩ := S1.out; have c2 := X.c2; rw [hd] at c2; clear B X hs)
      | (go_at_call 142; (refine (rIsKeyword_q (tx z) _).mono ?_); rintro _ _ ⟨rfl, rfl⟩; rw [e2])
      | (go_at_call 71; (with_reducible refine (HN.out _ S1.out).mono ?_); rintro _ W2 ⟨rfl, S2, B2⟩; have XC : EBox W2 W1.heap.size _ := ebo B2 hne.out XB.out; have x1 := XC.cell (i := 1) rfl; clear XC))
    go_ret
    exact ⟨rfl, S2, (But.of B1.out).trans B2⟩

end Go.Proofs.YtjpkcgepdfpbnaaGreatDoor.Rf

/- levels and operator of the reader. Written by tools/gen/genR3.py. -/
namespace Go.Proofs.YtjpkcgepdfpbnaaGreatDoor.Rf
open Go.RowKit Go.Sort Go.ChangeShapes Go.WideShapes
set_option linter.unusedVariables false

theorem results_two {fn : Func} {t u : Tmp} (h : fn.results = #[.tmp t, .tmp u]) (tmps : Array Value) (P : Program) (w : World) :
    (results fn tmps).run P w = .ok (.tuple #[tmps.getD t undef, tmps.getD u undef]) w := by
  simp [results, h]

/-- The operators of a level in their order. -/
def tord (k : Nat) : List (ByteArray × Int) := (tbl k).reverse

theorem look_none {t : ByteArray} : ∀ {l : List (ByteArray × Int)}, (∀ p ∈ l, p.1 ≠ t) → look t l = none
  | [], _ => rfl
  | (a, x) :: r, h => by
    rw [look, if_neg (fun e => h (a, x) (by simp) e.symm)]
    exact look_none fun p hp => h p (by simp [hp])
theorem look_mem {t : ByteArray} {x : Int} : ∀ {l : List (ByteArray × Int)}, (t, x) ∈ l → (l.map (·.1)).Nodup → look t l = some x
  | (a, y) :: r, h, hn => by
    rw [look]
    rw [List.map_cons, List.nodup_cons] at hn
    rcases List.mem_cons.1 h with h | h
    · injection h with h1 h2
      rw [if_pos h1, h2]
    · by_cases e : t = a
      · exact absurd (by rw [← e]; exact List.mem_map.2 ⟨(t, x), h, rfl⟩) hn.1
      · rw [if_neg e]
        exact look_mem h hn.2
theorem tbl_nodup (k : Nat) : ((tbl k).map (·.1)).Nodup := by
  match k with
  | 0 | 1 | 2 | 3 | 4 | 5 => decide
  | _ + 6 => show ([⟨#[37]⟩, ⟨#[47]⟩, ⟨#[42]⟩] : List ByteArray).Nodup; decide
theorem tbl_cls (k : Nat) : ∀ p ∈ tbl k, p.1 ≠ ⟨#[]⟩ ∧ cls (strL p.1) = 4 := by
  match k with
  | 0 | 1 | 2 | 3 | 4 | 5 => decide
  | _ + 6 => show ∀ p ∈ ([(⟨#[37]⟩, 5), (⟨#[47]⟩, 4), (⟨#[42]⟩, 3)] : List (ByteArray × Int)), p.1 ≠ ⟨#[]⟩ ∧ cls (strL p.1) = 4; decide
theorem tord_mem {k : Nat} {p : ByteArray × Int} : p ∈ tord k ↔ p ∈ tbl k := by unfold tord; exact List.mem_reverse

set_option maxRecDepth 100000 in
set_option maxHeartbeats 2000000 in
theorem levels_b (k : Nat) (hk : k ≤ 6) (w : World) : Calls Tryz.prog 126 #[.int .i64 (k : Int)] w fun e w' => e = .returned (.tuple #[.slice (some ⟨w.heap.size, 0, none⟩) (tord k).length (tord k).length, .slice (some ⟨w.heap.size + 1, 0, none⟩) (tord k).length (tord k).length]) ∧ (∀ j p, (tord k)[j]? = some p → w'.cell? ⟨w.heap.size, j, none⟩ = some (.string p.1) ∧ w'.cell? ⟨w.heap.size + 1, j, none⟩ = some (.int .i64 p.2)) ∧ Below w.heap.size w w' := by
  have key : ∀ (V : World), V = (w.alloc (.cells ((tord k).map fun p => Value.string p.1).toArray 9)).alloc (.cells ((tord k).map fun p => Value.int .i64 p.2).toArray 39) → (∀ j p, (tord k)[j]? = some p → V.cell? ⟨w.heap.size, j, none⟩ = some (.string p.1) ∧ V.cell? ⟨w.heap.size + 1, j, none⟩ = some (.int .i64 p.2)) ∧ Below w.heap.size w V := by
    rintro V rfl
    have B := box_below w ((tord k).map fun p => Value.string p.1).toArray 9
    have B2 := box_below (w.alloc (.cells ((tord k).map fun p => Value.string p.1).toArray 9)) ((tord k).map fun p => Value.int .i64 p.2).toArray 39
    have hz : (w.alloc (.cells ((tord k).map fun p => Value.string p.1).toArray 9)).heap.size = w.heap.size + 1 := by simp
    refine ⟨fun j p hj => ⟨cell_below B2 (box_cell w _ 9 j _ (by simp [hj])), ?_⟩, B.trans (B2.mono B.size)⟩
    have := box_cell (w.alloc (.cells ((tord k).map fun p => Value.string p.1).toArray 9)) ((tord k).map fun p => Value.int .i64 p.2).toArray 39 j (.int .i64 p.2) (by simp [hj])
    rw [hz] at this
    exact this
  match k, hk with
  | 0, _ =>
    have HK := Lib.hid key
    clear key
    go_enter Tryz.func126, Tryz.ntmps126
    go_wp2_with fail
    refine bodyPost_ret (results_two rfl _ _ _) rfl ?_
    exact ⟨rfl, HK.out _ rfl⟩
  | 1, _ =>
    have HK := Lib.hid key
    clear key
    go_enter Tryz.func126, Tryz.ntmps126
    go_wp2_with fail
    refine bodyPost_ret (results_two rfl _ _ _) rfl ?_
    exact ⟨rfl, HK.out _ rfl⟩
  | 2, _ =>
    have HK := Lib.hid key
    clear key
    go_enter Tryz.func126, Tryz.ntmps126
    go_wp2_with fail
    refine bodyPost_ret (results_two rfl _ _ _) rfl ?_
    exact ⟨rfl, HK.out _ rfl⟩
  | 3, _ =>
    have HK := Lib.hid key
    clear key
    go_enter Tryz.func126, Tryz.ntmps126
    go_wp2_with fail
    refine bodyPost_ret (results_two rfl _ _ _) rfl ?_
    exact ⟨rfl, HK.out _ rfl⟩
  | 4, _ =>
    have HK := Lib.hid key
    clear key
    go_enter Tryz.func126, Tryz.ntmps126
    go_wp2_with fail
    refine bodyPost_ret (results_two rfl _ _ _) rfl ?_
    exact ⟨rfl, HK.out _ rfl⟩
  | 5, _ =>
    have HK := Lib.hid key
    clear key
    go_enter Tryz.func126, Tryz.ntmps126
    go_wp2_with fail
    refine bodyPost_ret (results_two rfl _ _ _) rfl ?_
    exact ⟨rfl, HK.out _ rfl⟩
  | 6, _ =>
    have HK := Lib.hid key
    clear key
    go_enter Tryz.func126, Tryz.ntmps126
    go_wp2_with fail
    refine bodyPost_ret (results_two rfl _ _ _) rfl ?_
    exact ⟨rfl, HK.out _ rfl⟩
  | k + 7, h => omega

theorem takes_no (w : World) (b : Nat) (s : PS) (t : ByteArray) (S : St w b s) (ht : t ≠ ⟨#[]⟩) (hc : cls (strL t) = 4) (h : acp t s = false) : Calls Tryz.prog 120 #[ptr b, .string t] w fun e w' => e = .returned (.bool false) ∧ Below w.heap.size w w' := by
  have C := Lib.hid (sign_b w b s t S ht hc)
  rw [h] at C
  clear S h hc ht
  go_enter Tryz.func120, Tryz.ntmps120
  go_wp2_with (go_at_call 93; (with_reducible refine C.out.mono ?_); rintro _ W1 ⟨rfl, B1⟩)
  go_ret
  exact ⟨rfl, B1⟩

theorem takes_yes (w : World) (b : Nat) (s : PS) (t : ByteArray) (S : St w b s) (ht : t ≠ ⟨#[]⟩) (hc : cls (strL t) = 4) (h : acp t s = true) : Calls Tryz.prog 120 #[ptr b, .string t] w fun e w' => e = .returned (.bool true) ∧ St w' b (adv s) ∧ But b w w' :=
  (takes_b w b s t S ht hc).mono fun e w' ⟨he, S1, B1⟩ => ⟨by rw [he, h], by unfold acS at S1; rw [if_pos h] at S1; exact S1, B1⟩

/-- What a call of operator returns. -/
def GivesO (k : Nat) (W : World) (b : Nat) (s : PS) (r : Ending) (w' : World) : Prop :=
  (∃ op, opv k (tx (pk s)) = some op ∧ r = .returned (.tuple #[.int .i64 op, .bool true]) ∧ St w' b (adv s) ∧ But b W w') ∨ (opv k (tx (pk s)) = none ∧ r = .returned (.tuple #[.int .i64 0, .bool false]) ∧ St w' b s ∧ But b W w')

set_option maxRecDepth 100000 in
set_option maxHeartbeats 2000000 in
theorem operator_b (k : Nat) (hk : k ≤ 6) (w : World) (b : Nat) (s : PS) (S : St w b s) : Calls Tryz.prog 102 #[ptr b, .int .i64 (k : Int)] w (GivesO k w b s) := by
  have S0 := Lib.hid S
  have hb := S.lt
  have CL := Lib.hid (levels_b k hk w)
  obtain ⟨n, hn⟩ : ∃ n, (tord k).length = n := ⟨_, rfl⟩
  have hn9 : n ≤ 9 := by
    rw [← hn]; unfold tord; rw [List.length_reverse]
    match k with
    | 0 | 1 | 2 | 3 | 4 | 5 => decide
    | _ + 6 => show 3 ≤ 9; decide
  rw [hn] at CL
  have HN := Lib.hid hn
  clear S hn
  go_enter Tryz.func102, Tryz.ntmps102
  go_wp2_with (go_at_call 126; (with_reducible refine CL.out.mono ?_); rintro _ W1 ⟨rfl, hc, B⟩; have HC := Lib.hid hc; have B1 := Lib.hid B; clear hc B)
  go_loopg [8] n (fun gk v wr => ∃ i : Nat, v = .int .i64 (i : Int) ∧ i ≤ n ∧ gk = n - i ∧ (∀ j p, j < i → (tord k)[j]? = some p → acp p.1 s = false) ∧ (∀ j p, (tord k)[j]? = some p → wr.cell? ⟨w.heap.size, j, none⟩ = some (.string p.1) ∧ wr.cell? ⟨w.heap.size + 1, j, none⟩ = some (.int .i64 p.2)) ∧ Below w.heap.size w wr)
  case atStart => exact ⟨0, rfl, Nat.zero_le _, rfl, fun j p h => absurd h (Nat.not_lt_zero _), HC.out, B1.out⟩
  case round =>
    clear HC B1 CL
    obtain ⟨i, rfl, hi, hgk, hno, hcell, BB⟩ := hrel
    rename World => wr
    have HG := Lib.hid hgk
    have HO := Lib.hid hno
    have HC := Lib.hid hcell
    have HB := Lib.hid BB
    have S1 := Lib.hid (S0.out.on BB)
    clear hgk hno hcell BB
    by_cases hlt : i < n
    · have hlti : (i : Int) < (n : Int) := by omega
      obtain ⟨⟨t, x⟩, hp⟩ : ∃ p, (tord k)[i]? = some p := ⟨_, List.getElem?_eq_getElem (by rw [HN.out]; exact hlt)⟩
      have hm := tord_mem.1 (List.mem_of_getElem? hp)
      have hcl := tbl_cls k _ hm
      have c1 : wr.cell? ⟨w.heap.size, i, none⟩ = some (.string t) := (HC.out i _ hp).1
      have c2 : wr.cell? ⟨w.heap.size + 1, i, none⟩ = some (.int .i64 x) := (HC.out i _ hp).2
      cases ha : acp t s
      · have CT := Lib.hid (takes_no wr b s t S1.out hcl.1 hcl.2 ha)
        have HA := Lib.hid ha
        have HP := Lib.hid hp
        clear ha hp hm hcl
        go_wp2_with (go_at_call 120; (with_reducible refine CT.out.mono ?_); rintro _ W5 ⟨rfl, B⟩; have B5 := Lib.hid B; clear B)
        go_roundg (n - (i + 1))
        case measure => rw [HG.out]; omega
        case rel => exact ⟨i + 1, by go_num, by omega, rfl, fun j p hj hq => by
          rcases Nat.lt_succ_iff_lt_or_eq.1 hj with hj | rfl
          · exact HO.out j p hj hq
          · rw [HP.out] at hq; injection hq with hq; rw [← hq]; exact HA.out, fun j p hq => ⟨cell_below B5.out (HC.out j p hq).1, cell_below B5.out (HC.out j p hq).2⟩, bon HB.out B5.out⟩
      · have CT := Lib.hid (takes_yes wr b s t S1.out hcl.1 hcl.2 ha)
        have hov : Hid (opv k (tx (pk s)) = some x) := Lib.hid (by
          have := acp_iff.1 ha
          rw [this]
          exact look_mem hm (tbl_nodup k))
        have hne : w.heap.size + 1 ≠ b := by omega
        clear ha hp hm hcl
        go_wp2_with (go_at_call 120; (with_reducible refine CT.out.mono ?_); rintro _ W5 ⟨rfl, S5, B⟩; have SS := Lib.hid S5; have c3 := B.cell hne c2; have B5 := Lib.hid B; clear B S5)
        refine bodyPost_ret (results_two rfl _ _ _) rfl ?_
        exact .inl ⟨x, hov.out, rfl, SS.out, (But.of HB.out).trans B5.out⟩
    · obtain rfl : n = i := by omega
      have hov : Hid (opv k (tx (pk s)) = none) := Lib.hid (look_none fun p hp e => by
        obtain ⟨j, hj, hq⟩ := List.mem_iff_getElem.1 (tord_mem.2 hp)
        have h1 := HO.out j p (by rw [← HN.out]; exact hj) (by rw [List.getElem?_eq_getElem hj, hq])
        have h2 : acp p.1 s = true := acp_iff.2 e.symm
        rw [h1] at h2
        cases h2)
      go_wp2_with fail
      refine bodyPost_ret (results_two rfl _ _ _) rfl ?_
      exact .inr ⟨hov.out, rfl, S1.out, But.of HB.out⟩

end Go.Proofs.YtjpkcgepdfpbnaaGreatDoor.Rf

/- unary, binary, expr of the reader. Written by tools/gen/genR4.py. -/
namespace Go.Proofs.YtjpkcgepdfpbnaaGreatDoor.Rf
open Go.RowKit Go.Sort Go.ChangeShapes Go.WideShapes
set_option linter.unusedVariables false

/-- The method g parses what nt says, with less fuel than m. -/
def PrN (g : FuncId) (nt : NT) (m : Nat) : Prop := ∀ j, j < m → ∀ W b s e s', St W b s → pe j nt s = some (e, s') → Calls Tryz.prog g #[ptr b] W (GX W b e s')
def lvn (k : Nat) : NT := if k ≤ 6 then .ex k else .un
def PrB (m : Nat) : Prop := ∀ j, j < m → ∀ k, k ≤ 7 → ∀ W b s e s', St W b s → pe j (lvn k) s = some (e, s') → Calls Tryz.prog 79 #[ptr b, .int .i64 (k : Int)] W (GX W b e s')
theorem PrN.mono {g : FuncId} {nt : NT} {m m' : Nat} (h : PrN g nt m) (q : m' ≤ m) : PrN g nt m' := fun j hj => h j (Nat.lt_of_lt_of_le hj q)
theorem PrB.mono {m m' : Nat} (h : PrB m) (q : m' ≤ m) : PrB m' := fun j hj => h j (Nat.lt_of_lt_of_le hj q)
theorem lvn_succ {k : Nat} (h : k ≤ 6) : lvn (k + 1) = opd k := by
  unfold lvn opd
  by_cases q : k < 6
  · rw [if_pos (by omega), if_pos q]
  · rw [if_neg (by omega), if_neg q]

set_option maxRecDepth 100000 in
set_option maxHeartbeats 2000000 in
theorem unary_s (m : Nat) (HU : PrN 101 .un (m + 1)) (HP : PrN 124 .po (m + 1)) (w : World) (b : Nat) (s : PS) (e : Ex) (s' : PS) (S : St w b s) (h : pe (m + 1) .un s = some (e, s')) :
    Calls Tryz.prog 101 #[ptr b] w (GX w b e s') := by
  rw [pe] at h
  have F0 := Lib.hid ((Fr.start0 S).box zX 42)
  by_cases h1 : acp ⟨#[45]⟩ s = true
  · rw [if_pos h1] at h
    obtain ⟨⟨x, s2⟩, hq, h2⟩ := bind_some h
    clear h
    obtain ⟨rfl, rfl⟩ := some_pair h2
    have HH := Lib.hid (fun W S => HU m (Nat.lt_succ_self m) W b (adv s) x s2 S hq)
    have CA := Lib.hid (fun W S => takes_yes W b s ⟨#[45]⟩ S (by decide) (by decide) h1)
    clear S h2 HU HP hq h1 
    go_enter Tryz.func101, Tryz.ntmps101
    go_wp2_with (first
      | (go_at_call 120; (with_reducible refine (CA.out _ F0.out.st).mono ?_); rintro _ W1 ⟨rfl, S1, B1⟩; have F1 := Lib.hid (F0.out.call S1 B1); clear S1 B1)
      | (go_at_call 101; (with_reducible refine (HH.out _ F1.out.st).mono ?_); rintro _ W2 ⟨x1, hx, A1, n1, c1, rfl, R, S1, B1⟩; have F2 := Lib.hid ((F1.out.got0 S1 B1 R).made1 (k := c1) (t := 42) (List.mem_cons_self ..)); have HX1 := Lib.hid hx; clear R S1 B1 hx)
      | (with_reducible refine bset5 rk_ex rfl (F2.out.bx _ (List.mem_cons_self ..)).1 rfl rfl ?_; intro V XV BV sV; have F3 := Lib.hid (F2.out.set (pre := []) XV BV sV); have h0 := XV.cell (i := 0) rfl; have h1 := XV.cell (i := 1) rfl; have h2 := XV.cell (i := 2) rfl; have h3 := XV.cell (i := 3) rfl; have h4 := XV.cell (i := 4) rfl; clear XV BV sV))
    exact bodyPost_ret (v := exV (.mk 5 17 ⟨#[]⟩ 0 [x1]) (some ⟨W2.heap.size, 0, none⟩) 1 1) (by simp [results, Tryz.results101, go_sem, Ex.k, Ex.o, Ex.s, Ex.v, h0, h1, h2, h3, h4]) rfl ⟨_, (fun q => by rw [HX1.out q]), _, _, _, rfl, F3.out.fin (List.mem_cons_self ..), F3.out.st, F3.out.bb⟩
  · rw [if_neg h1] at h
    have n0 := h1
    clear h1
    by_cases h1 : acp ⟨#[33]⟩ s = true
    · rw [if_pos h1] at h
      obtain ⟨⟨x, s2⟩, hq, h2⟩ := bind_some h
      clear h
      obtain ⟨rfl, rfl⟩ := some_pair h2
      have HH := Lib.hid (fun W S => HU m (Nat.lt_succ_self m) W b (adv s) x s2 S hq)
      have CN0 := Lib.hid (fun W S => takes_no W b s ⟨#[45]⟩ S (by decide) (by decide) (by simpa using n0))
      have CA := Lib.hid (fun W S => takes_yes W b s ⟨#[33]⟩ S (by decide) (by decide) h1)
      clear S h2 HU HP hq h1 n0
      go_enter Tryz.func101, Tryz.ntmps101
      go_wp2_with (first
        | (go_at_call 120; (with_reducible refine (CN0.out _ F0.out.st).mono ?_); rintro _ N0 ⟨rfl, B1⟩; have G0 := Lib.hid (F0.out.below B1); clear B1)
        | (go_at_call 120; (with_reducible refine (CA.out _ G0.out.st).mono ?_); rintro _ W1 ⟨rfl, S1, B1⟩; have F1 := Lib.hid (G0.out.call S1 B1); clear S1 B1)
        | (go_at_call 101; (with_reducible refine (HH.out _ F1.out.st).mono ?_); rintro _ W2 ⟨x1, hx, A1, n1, c1, rfl, R, S1, B1⟩; have F2 := Lib.hid ((F1.out.got0 S1 B1 R).made1 (k := c1) (t := 42) (List.mem_cons_self ..)); have HX1 := Lib.hid hx; clear R S1 B1 hx)
        | (with_reducible refine bset5 rk_ex rfl (F2.out.bx _ (List.mem_cons_self ..)).1 rfl rfl ?_; intro V XV BV sV; have F3 := Lib.hid (F2.out.set (pre := []) XV BV sV); have h0 := XV.cell (i := 0) rfl; have h1 := XV.cell (i := 1) rfl; have h2 := XV.cell (i := 2) rfl; have h3 := XV.cell (i := 3) rfl; have h4 := XV.cell (i := 4) rfl; clear XV BV sV))
      exact bodyPost_ret (v := exV (.mk 5 18 ⟨#[]⟩ 0 [x1]) (some ⟨W2.heap.size, 0, none⟩) 1 1) (by simp [results, Tryz.results101, go_sem, Ex.k, Ex.o, Ex.s, Ex.v, h0, h1, h2, h3, h4]) rfl ⟨_, (fun q => by rw [HX1.out q]), _, _, _, rfl, F3.out.fin (List.mem_cons_self ..), F3.out.st, F3.out.bb⟩
    · rw [if_neg h1] at h
      have n1 := h1
      have CN0 := Lib.hid (fun W S => takes_no W b s ⟨#[45]⟩ S (by decide) (by decide) (by simpa using n0))
      have CN1 := Lib.hid (fun W S => takes_no W b s ⟨#[33]⟩ S (by decide) (by decide) (by simpa using n1))
      have HH := Lib.hid (fun W S => HP m (Nat.lt_succ_self m) W b s e s' S h)
      clear S h HU HP h1 n0 n1
      go_enter Tryz.func101, Tryz.ntmps101
      go_wp2_with (first
        | (go_at_call 120; (with_reducible refine (CN0.out _ F0.out.st).mono ?_); rintro _ N0 ⟨rfl, B1⟩; have G0 := Lib.hid (F0.out.below B1); clear B1)
        | (go_at_call 120; (with_reducible refine (CN1.out _ G0.out.st).mono ?_); rintro _ N1 ⟨rfl, B1⟩; have G1 := Lib.hid (G0.out.below B1); clear B1)
        | (go_at_call 124; (with_reducible refine (HH.out _ G1.out.st).mono ?_); rintro _ W2 ⟨x1, hx, A1, n1, c1, rfl, R, S1, B1⟩; have F2 := Lib.hid ((G1.out.got0 S1 B1 R)); have HX1 := Lib.hid hx; clear R S1 B1 hx)
        | (with_reducible refine bset5 rk_ex rfl (F2.out.bx _ (List.mem_cons_self ..)).1 rfl rfl ?_; intro V XV BV sV; have F3 := Lib.hid (F2.out.set (pre := []) XV BV sV); have h0 := XV.cell (i := 0) rfl; have h1 := XV.cell (i := 1) rfl; have h2 := XV.cell (i := 2) rfl; have h3 := XV.cell (i := 3) rfl; have h4 := XV.cell (i := 4) rfl; clear XV BV sV))
      exact bodyPost_ret (v := exV x1 A1 n1 c1) (by simp [results, Tryz.results101, go_sem, Ex.k, Ex.o, Ex.s, Ex.v, h0, h1, h2, h3, h4]) rfl ⟨_, HX1.out, _, _, _, rfl, F3.out.fin (List.mem_cons_self ..), F3.out.st, F3.out.bb⟩

set_option maxRecDepth 100000 in
set_option maxHeartbeats 2000000 in
theorem expr_s (m : Nat) (HB : PrB (m + 1)) (w : World) (b : Nat) (s : PS) (e : Ex) (s' : PS) (S : St w b s) (h : pe m (.ex 0) s = some (e, s')) : Calls Tryz.prog 40 #[ptr b] w (GX w b e s') := by
  have F0 := Lib.hid ((Fr.start0 S).box zX 42)
  have HH := Lib.hid (fun W S => (show Calls Tryz.prog 79 #[ptr b, .int .i64 0] W (GX W b e s') from HB m (Nat.lt_succ_self m) 0 (by omega) W b s e s' S h))
  clear S h HB
  go_enter Tryz.func40, Tryz.ntmps40
  go_wp2_with (first
    | (go_at_call 79; (with_reducible refine (HH.out _ F0.out.st).mono ?_); rintro _ W2 ⟨x1, hx, A1, n1, c1, rfl, R, S1, B1⟩; have F2 := Lib.hid ((F0.out.got0 S1 B1 R)); have HX1 := Lib.hid hx; clear R S1 B1 hx)
    | (with_reducible refine bset5 rk_ex rfl (F2.out.bx _ (List.mem_cons_self ..)).1 rfl rfl ?_; intro V XV BV sV; have F3 := Lib.hid (F2.out.set (pre := []) XV BV sV); have h0 := XV.cell (i := 0) rfl; have h1 := XV.cell (i := 1) rfl; have h2 := XV.cell (i := 2) rfl; have h3 := XV.cell (i := 3) rfl; have h4 := XV.cell (i := 4) rfl; clear XV BV sV))
  exact bodyPost_ret (v := exV x1 A1 n1 c1) (by simp [results, Tryz.results40, go_sem, Ex.k, Ex.o, Ex.s, Ex.v, h0, h1, h2, h3, h4]) rfl ⟨_, HX1.out, _, _, _, rfl, F3.out.fin (List.mem_cons_self ..), F3.out.st, F3.out.bb⟩

set_option maxRecDepth 100000 in
set_option maxHeartbeats 2000000 in
theorem binary_s (k : Nat) (hk : k ≤ 6) (m : Nat) (HB : PrB m) (w : World) (b : Nat) (s : PS) (e : Ex) (s' : PS) (S : St w b s) (h : pe m (.ex k) s = some (e, s')) :
    Calls Tryz.prog 79 #[ptr b, .int .i64 (k : Int)] w (GX w b e s') := by
  have F0 := Lib.hid ((Fr.start0 S).box zX 42)
  obtain ⟨m, rfl⟩ : ∃ q, m = q + 1 := by cases m with | zero => cases h | succ m => exact ⟨m, rfl⟩
  rw [pe] at h
  obtain ⟨⟨x, s1⟩, hq, h2⟩ := bind_some h
  simp only at h2
  have HC : Hid (∀ j, j < m + 1 → ∀ W b s e s', St W b s → pe j (opd k) s = some (e, s') → Calls Tryz.prog 79 #[ptr b, .int .i64 ((k : Int) + 1)] W (GX W b e s')) := Lib.hid (fun j hj W b s e s' S hp => HB j hj (k + 1) (by omega) W b s e s' S (by rw [lvn_succ hk]; exact hp))
  have HH := Lib.hid (fun W S => HC.out m (Nat.lt_succ_self m) W b s x s1 S hq)
  have H2 := Lib.hid h2
  have hk6 : ¬ (6 : Int) < (k : Int) := by omega
  have hki : (k : Int) ≤ 6 := by omega
  have hkw : IntKind.i64.wrap ((k : Int) + 1) = (k : Int) + 1 := by simp [IntKind.wrap, IntKind.bits, IntKind.signed]; omega
  have HO := Lib.hid (operator_b k hk)
  clear S h HB hq h2
  go_enter Tryz.func79, Tryz.ntmps79
  go_wp2_with (first
    | (go_at_call 79; (with_reducible refine (HH.out _ F0.out.st).mono ?_); rintro _ W1 ⟨x1, hx, A1, n1, c1, rfl, R, S1, B1⟩; have F1 := Lib.hid ((F0.out.got0 S1 B1 R).box #[.int .i64 x1.k, .int .i64 x1.o, .string x1.s, .int .i64 x1.v, .slice A1 n1 c1] 42); have HX1 := Lib.hid hx; clear R S1 B1 hx))
  obtain ⟨c5, hc5⟩ : ∃ c5, W1.heap.size = c5 := ⟨_, rfl⟩
  obtain ⟨U, hU⟩ : ∃ U, W1.alloc (.cells #[.int .i64 x1.k, .int .i64 x1.o, .string x1.s, .int .i64 x1.v, .slice A1 n1 c1] 42) = U := ⟨_, rfl⟩
  rw [hU, hc5] at F1 ⊢
  clear hU hc5 F0 HH
  go_loopg [] m (fun gk wr => ∃ (x x1 : Ex) (A : Option Addr) (n c : Nat) (sc : PS), Fr no0 w wr b sc [(c5, [.int .i64 x1.k, .int .i64 x1.o, .string x1.s, .int .i64 x1.v, .slice A n c]), (w.heap.size, zX.toList)] [(A, n, x1.l)] ∧ pe gk (.lp k x) sc = some (e, s') ∧ (sc.2 ≤ 0 → x1 = x) ∧ gk ≤ m)
  case atStart => exact ⟨x, x1, A1, n1, c1, s1, F1.out, H2.out, HX1.out, Nat.le_refl _⟩
  case round =>
    clear F1 H2 HX1
    obtain ⟨x, x1, A, n, c, sc, F', hp, hx, hkm⟩ := hrel
    rename World => wr
    have F4 := Lib.hid F'
    have HX := Lib.hid hx
    clear F' hx
    obtain ⟨j, rfl⟩ : ∃ q, gk = q + 1 := by cases gk with | zero => cases hp | succ m => exact ⟨m, rfl⟩
    rw [pe] at hp
    cases ho : opv k (tx (pk sc)) with
    | none =>
      rw [ho] at hp
      obtain ⟨rfl, rfl⟩ := some_pair hp
      have CO := Lib.hid ((HO.out wr b sc F4.out.st).mono (fun r w' h => (show r = .returned (.tuple #[.int .i64 0, .bool false]) ∧ St w' b sc ∧ But b wr w' from by
        rcases h with ⟨op, h1, _⟩ | ⟨_, h2, h3, h4⟩
        · rw [ho] at h1; cases h1
        · exact ⟨h2, h3, h4⟩)))
      clear hp ho
      go_wp2_with (first
        | (go_at_call 102; (with_reducible refine CO.out.mono ?_); rintro _ W5 ⟨rfl, S1, B1⟩; have F5 := Lib.hid (F4.out.call S1 B1); clear S1 B1; have gx : EBox W5 c5 [.int .i64 x1.k, .int .i64 x1.o, .string x1.s, .int .i64 x1.v, .slice A n c] := (F5.out.bx _ (List.mem_cons_self ..)).1; have g0 := gx.cell (i := 0) rfl; have g1 := gx.cell (i := 1) rfl; have g2 := gx.cell (i := 2) rfl; have g3 := gx.cell (i := 3) rfl; have g4 := gx.cell (i := 4) rfl; clear gx)
        | (with_reducible refine bset5 rk_ex rfl (F5.out.bx _ (List.mem_cons_of_mem _ (List.mem_cons_self ..))).1 rfl rfl ?_; intro V XV BV sV; have F6 := Lib.hid (F5.out.set (pre := [_]) XV BV sV); have h0 := XV.cell (i := 0) rfl; have h1 := XV.cell (i := 1) rfl; have h2 := XV.cell (i := 2) rfl; have h3 := XV.cell (i := 3) rfl; have h4 := XV.cell (i := 4) rfl; clear XV BV sV))
      exact bodyPost_ret (v := exV x1 A n c) (by simp [results, Tryz.results79, go_sem, Ex.k, Ex.o, Ex.s, Ex.v, h0, h1, h2, h3, h4]) rfl ⟨_, HX.out, _, _, _, rfl, F6.out.fin (List.mem_cons_self ..), F6.out.st, F6.out.bb⟩
    | some op =>
      rw [ho] at hp
      obtain ⟨⟨y, s2⟩, h1, h2⟩ := bind_some hp
      have hsc : ¬ 0 < sc.2 := (pk_tx_gd (opv_ne ho) F4.out.st.gd).1
      have hx1 : x1 = x := HX.out (Int.not_lt.1 hsc)
      subst hx1
      have CO := Lib.hid ((HO.out wr b sc F4.out.st).mono (fun r w' h => (show r = .returned (.tuple #[.int .i64 op, .bool true]) ∧ St w' b (adv sc) ∧ But b wr w' from by
        rcases h with ⟨op', h1, h2, h3, h4⟩ | ⟨h1, _⟩
        · rw [ho] at h1; injection h1 with h1; subst h1; exact ⟨h2, h3, h4⟩
        · rw [ho] at h1; cases h1)))
      have HE := Lib.hid (fun W S => HC.out j (by omega) W b (adv sc) y s2 S h1)
      have H2 := Lib.hid h2
      clear hp ho h1 hsc HX h2
      go_wp2_with (first
        | (go_at_call 102; (with_reducible refine CO.out.mono ?_); rintro _ W3 ⟨rfl, S1, B1⟩; have F5 := Lib.hid (F4.out.call S1 B1); clear S1 B1))
      refine wp_region_treeC (fun _ => True) (.read 0 (.read 2 (.read 3 (.read 4 (.fork2 1 (.fork1 5 (.fork1 6 (.read 7 (.fork1 8 .nil)))) 5 (.fork1 1 (.fork1 6 (.read 7 (.fork1 8 .nil))))))))) (by kernel_rfl) (by kernel_rfl) (fun _ _ => trivial) ?_
      intro W4 B
      replace F5 := Lib.hid (F5.out.below B)
      clear B F4 CO
      refine tree_read rfl ?_
      refine wpQuiet_step (fun K hK => ?_)
      rw [if_pos (by rfl)]
      first | refine quiet_move _ rfl ?_ | refine quiet_assign _ rfl ?_
      go_simp
      refine hK _ ?_
      clear hK K
      refine wpQuiet_nil ?_
      refine tree_read rfl ?_
      refine wpQuiet_step (fun K hK => ?_)
      rw [if_pos (by rfl)]
      first | refine quiet_move _ rfl ?_ | refine quiet_assign _ rfl ?_
      go_simp
      refine hK _ ?_
      clear hK K
      refine wpQuiet_nil ?_
      refine tree_read rfl ?_
      refine wpQuiet_step (fun K hK => ?_)
      rw [if_pos (by rfl)]
      first | refine quiet_move _ rfl ?_ | refine quiet_assign _ rfl ?_
      go_simp
      refine hK _ ?_
      clear hK K
      refine wpQuiet_nil ?_
      refine tree_read rfl ?_
      refine wpQuiet_step (fun K hK => ?_)
      rw [if_pos (by rfl)]
      refine quiet_tval (.int .i64 ((k : Int) + 1)) (fun W hW => by simp [execOp, go_sem, hkw]) ?_
      go_simp
      refine hK _ ?_
      clear hK K
      refine wpQuiet_nil ?_
      refine tree_two rfl rfl ?_ ?_
      · have gx : EBox W4 c5 [.int .i64 x1.k, .int .i64 x1.o, .string x1.s, .int .i64 x1.v, .slice A n c] := (F5.out.bx _ (List.mem_cons_self ..)).1
        have g0 := gx.cell (i := 0) rfl
        have g1 := gx.cell (i := 1) rfl
        have g2 := gx.cell (i := 2) rfl
        have g3 := gx.cell (i := 3) rfl
        have g4 := gx.cell (i := 4) rfl
        clear gx
        go_wp2_with fail
        refine ⟨trivial, ?_⟩
        clear g0 g1 g2 g3 g4
        refine tree_one rfl ?_
        go_wp2_with ((go_at_call 79; (with_reducible refine (HE.out _ F5.out.st).mono ?_); rintro _ W5 ⟨x2, hx, A2, n2, c2, rfl, R, S1, B1⟩; have F6 := Lib.hid ((F5.out.got0 S1 B1 R)); have HX2 := Lib.hid hx; clear R S1 B1 hx))
        refine ⟨trivial, ?_⟩
        refine tree_one rfl ?_
        go_wp2_with fail
        have F7 := Lib.hid (F6.out.made2 (x := x1) (y := x2) (k := c) (k2 := c2) (t := 42) (List.mem_cons_of_mem _ (List.mem_cons_self ..)) (List.mem_cons_self ..))
        refine ⟨trivial, ?_⟩
        refine tree_read rfl ?_
        refine wpQuiet_step (fun K hK => ?_)
        rw [if_pos (by rfl)]
        refine quiet_tval (.agg #[.int .i64 6, .int .i64 op, .string ⟨#[]⟩, .int .i64 0, .slice (some ⟨W5.heap.size, 0, none⟩) 2 2]) (fun W hW => by simp [execOp, go_sem]) ?_
        go_simp
        refine hK _ ?_
        clear hK K
        refine wpQuiet_nil ?_
        refine tree_one rfl ?_
        go_wp2_with ((refine bset5 rk_ex rfl (F7.out.bx _ (List.mem_cons_self ..)).1 rfl rfl ?_; intro V XV BV sV; have F9 := Lib.hid (F7.out.set (pre := []) XV BV sV); have h0 := XV.cell (i := 0) rfl; have h1 := XV.cell (i := 1) rfl; have h2 := XV.cell (i := 2) rfl; have h3 := XV.cell (i := 3) rfl; have h4 := XV.cell (i := 4) rfl; clear XV BV sV))
        refine ⟨trivial, ?_⟩
        refine tree_nil ?_
        by_cases h3 : k = 3
        · subst h3
          obtain ⟨rfl, rfl⟩ := some_pair H2.out
          clear H2
          have q0 := h0
          have q1 := h1
          have q2 := h2
          have q3 := h3
          have q4 := h4
          clear h0 h1 h2 h3 h4
          go_wp2_with (with_reducible refine bset5 rk_ex rfl (F9.out.bx _ (List.mem_cons_of_mem _ (List.mem_cons_self ..))).1 rfl rfl ?_; intro V XV BV sV; have FA := Lib.hid (F9.out.set (pre := [_]) XV BV sV); have h0 := XV.cell (i := 0) rfl; have h1 := XV.cell (i := 1) rfl; have h2 := XV.cell (i := 2) rfl; have h3 := XV.cell (i := 3) rfl; have h4 := XV.cell (i := 4) rfl; clear XV BV sV)
          exact bodyPost_ret (v := exV (.mk 6 op ⟨#[]⟩ 0 [x1, x2]) (some ⟨W5.heap.size, 0, none⟩) 2 2) (by simp [results, Tryz.results79, go_sem, Ex.k, Ex.o, Ex.s, Ex.v, h0, h1, h2, h3, h4]) rfl ⟨_, (fun q => by rw [HX2.out q]), _, _, _, rfl, FA.out.fin (List.mem_cons_self ..), FA.out.st, FA.out.bb⟩
        · have h3i : ((k : Int) == 3) = false := beq_eq_false_iff_ne.2 (by omega)
          have HR := Lib.hid (show pe j (.lp k (.mk 6 op ⟨#[]⟩ 0 [x1, y])) s2 = some (e, s') from by have := H2.out; simp only [if_neg h3] at this; exact this)
          clear H2 h3
          go_wp2_with fail
          go_roundg j
          case measure => omega
          case rel => exact ⟨_, (.mk 6 op ⟨#[]⟩ 0 [x1, x2]), _, _, _, _, (keepT F9.out), HR.out, fun q => by rw [HX2.out q], by omega⟩
      · go_wp2_with ((go_at_call 79; (with_reducible refine (HE.out _ F5.out.st).mono ?_); rintro _ W5 ⟨x2, hx, A2, n2, c2, rfl, R, S1, B1⟩; have F6 := Lib.hid ((F5.out.got0 S1 B1 R)); have HX2 := Lib.hid hx; clear R S1 B1 hx))
        refine ⟨trivial, ?_⟩
        have gx : EBox W5 c5 [.int .i64 x1.k, .int .i64 x1.o, .string x1.s, .int .i64 x1.v, .slice A n c] := (F6.out.bx _ (List.mem_cons_self ..)).1
        have g0 := gx.cell (i := 0) rfl
        have g1 := gx.cell (i := 1) rfl
        have g2 := gx.cell (i := 2) rfl
        have g3 := gx.cell (i := 3) rfl
        have g4 := gx.cell (i := 4) rfl
        clear gx
        refine tree_one rfl ?_
        go_wp2_with fail
        refine ⟨trivial, ?_⟩
        clear g0 g1 g2 g3 g4
        refine tree_one rfl ?_
        go_wp2_with fail
        have F7 := Lib.hid (F6.out.made2 (x := x1) (y := x2) (k := c) (k2 := c2) (t := 42) (List.mem_cons_of_mem _ (List.mem_cons_self ..)) (List.mem_cons_self ..))
        refine ⟨trivial, ?_⟩
        refine tree_read rfl ?_
        refine wpQuiet_step (fun K hK => ?_)
        rw [if_pos (by rfl)]
        refine quiet_tval (.agg #[.int .i64 6, .int .i64 op, .string ⟨#[]⟩, .int .i64 0, .slice (some ⟨W5.heap.size, 0, none⟩) 2 2]) (fun W hW => by simp [execOp, go_sem]) ?_
        go_simp
        refine hK _ ?_
        clear hK K
        refine wpQuiet_nil ?_
        refine tree_one rfl ?_
        go_wp2_with ((refine bset5 rk_ex rfl (F7.out.bx _ (List.mem_cons_self ..)).1 rfl rfl ?_; intro V XV BV sV; have F9 := Lib.hid (F7.out.set (pre := []) XV BV sV); have h0 := XV.cell (i := 0) rfl; have h1 := XV.cell (i := 1) rfl; have h2 := XV.cell (i := 2) rfl; have h3 := XV.cell (i := 3) rfl; have h4 := XV.cell (i := 4) rfl; clear XV BV sV))
        refine ⟨trivial, ?_⟩
        refine tree_nil ?_
        by_cases h3 : k = 3
        · subst h3
          obtain ⟨rfl, rfl⟩ := some_pair H2.out
          clear H2
          have q0 := h0
          have q1 := h1
          have q2 := h2
          have q3 := h3
          have q4 := h4
          clear h0 h1 h2 h3 h4
          go_wp2_with (with_reducible refine bset5 rk_ex rfl (F9.out.bx _ (List.mem_cons_of_mem _ (List.mem_cons_self ..))).1 rfl rfl ?_; intro V XV BV sV; have FA := Lib.hid (F9.out.set (pre := [_]) XV BV sV); have h0 := XV.cell (i := 0) rfl; have h1 := XV.cell (i := 1) rfl; have h2 := XV.cell (i := 2) rfl; have h3 := XV.cell (i := 3) rfl; have h4 := XV.cell (i := 4) rfl; clear XV BV sV)
          exact bodyPost_ret (v := exV (.mk 6 op ⟨#[]⟩ 0 [x1, x2]) (some ⟨W5.heap.size, 0, none⟩) 2 2) (by simp [results, Tryz.results79, go_sem, Ex.k, Ex.o, Ex.s, Ex.v, h0, h1, h2, h3, h4]) rfl ⟨_, (fun q => by rw [HX2.out q]), _, _, _, rfl, FA.out.fin (List.mem_cons_self ..), FA.out.st, FA.out.bb⟩
        · have h3i : ((k : Int) == 3) = false := beq_eq_false_iff_ne.2 (by omega)
          have HR := Lib.hid (show pe j (.lp k (.mk 6 op ⟨#[]⟩ 0 [x1, y])) s2 = some (e, s') from by have := H2.out; simp only [if_neg h3] at this; exact this)
          clear H2 h3
          go_wp2_with fail
          go_roundg j
          case measure => omega
          case rel => exact ⟨_, (.mk 6 op ⟨#[]⟩ 0 [x1, x2]), _, _, _, _, (keepT F9.out), HR.out, fun q => by rw [HX2.out q], by omega⟩

set_option maxRecDepth 100000 in
set_option maxHeartbeats 2000000 in
theorem binary_7 (m : Nat) (HU : PrN 101 .un (m + 1)) (w : World) (b : Nat) (s : PS) (e : Ex) (s' : PS) (S : St w b s) (h : pe m .un s = some (e, s')) :
    Calls Tryz.prog 79 #[ptr b, .int .i64 7] w (GX w b e s') := by
  have F0 := Lib.hid ((Fr.start0 S).box zX 42)
  have HH := Lib.hid (fun W S => HU m (Nat.lt_succ_self m) W b s e s' S h)
  clear S h HU
  go_enter Tryz.func79, Tryz.ntmps79
  go_wp2_with (first
    | (go_at_call 101; (with_reducible refine (HH.out _ F0.out.st).mono ?_); rintro _ W2 ⟨x1, hx, A1, n1, c1, rfl, R, S1, B1⟩; have F2 := Lib.hid ((F0.out.got0 S1 B1 R)); have HX1 := Lib.hid hx; clear R S1 B1 hx)
    | (with_reducible refine bset5 rk_ex rfl (F2.out.bx _ (List.mem_cons_self ..)).1 rfl rfl ?_; intro V XV BV sV; have F3 := Lib.hid (F2.out.set (pre := []) XV BV sV); have h0 := XV.cell (i := 0) rfl; have h1 := XV.cell (i := 1) rfl; have h2 := XV.cell (i := 2) rfl; have h3 := XV.cell (i := 3) rfl; have h4 := XV.cell (i := 4) rfl; clear XV BV sV))
  exact bodyPost_ret (v := exV x1 A1 n1 c1) (by simp [results, Tryz.results79, go_sem, Ex.k, Ex.o, Ex.s, Ex.v, h0, h1, h2, h3, h4]) rfl ⟨_, HX1.out, _, _, _, rfl, F3.out.fin (List.mem_cons_self ..), F3.out.st, F3.out.bb⟩

end Go.Proofs.YtjpkcgepdfpbnaaGreatDoor.Rf
