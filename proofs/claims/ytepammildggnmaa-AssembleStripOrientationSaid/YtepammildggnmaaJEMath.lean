/- Edges: the numbers and lists. No program is named here. -/
import Derived.Test.YtepammildggnmaaJMath
namespace Go.Proofs.Ytepammildggnmaa

/-- An edge. -/
structure Ed where
  x : Int
  y : Int
deriving DecidableEq
instance : Inhabited Ed := ⟨⟨0, 0⟩⟩

/-- The comparison of integers, as a number. -/
def cmpi (x y : Int) : Int := if x < y then -1 else if y < x then 1 else 0

/-- .. of edges. -/
def cmpE (a b : Ed) : Int := if cmpi a.x b.x = 0 then cmpi a.y b.y else cmpi a.x b.x

/-- The order of edges. -/
def elt (a b : Ed) : Prop := a.x < b.x ∨ a.x = b.x ∧ a.y < b.y

instance (a b : Ed) : Decidable (elt a b) := by unfold elt; exact inferInstance

theorem cmpE_neg (a b : Ed) : cmpE a b < 0 ↔ elt a b := by
  unfold cmpE cmpi elt
  (repeat' split) <;> omega

theorem elt_irrefl (a : Ed) : ¬ elt a a := by unfold elt; omega
theorem elt_trans {a b c : Ed} (h : elt a b) (k : elt b c) : elt a c := by unfold elt at *; omega
theorem elt_total {a b : Ed} (h : ¬ elt a b) (k : ¬ elt b a) : a = b := by
  obtain ⟨a1, a2⟩ := a
  obtain ⟨b1, b2⟩ := b
  unfold elt at *
  simp only at *
  have h1 : a1 = b1 := by omega
  have h2 : a2 = b2 := by omega
  rw [h1, h2]

/-- Strictly ascending. -/
def asc (l : List Ed) : Prop := l.Pairwise elt

/-- Two strictly ascending lists of the same members are one. -/
theorem asc_ext : ∀ (l m : List Ed), asc l → asc m → (∀ e, e ∈ l ↔ e ∈ m) → l = m
  | [], [], _, _, _ => rfl
  | [], b :: m, _, _, h => absurd ((h b).2 (List.mem_cons_self)) (by simp)
  | a :: l, [], _, _, h => absurd ((h a).1 (List.mem_cons_self)) (by simp)
  | a :: l, b :: m, hl, hm, h => by
    obtain ⟨h1, h2⟩ := List.pairwise_cons.1 hl
    obtain ⟨k1, k2⟩ := List.pairwise_cons.1 hm
    have e : a = b := by
      rcases List.mem_cons.1 ((h a).1 List.mem_cons_self) with e | ha
      · exact e
      · rcases List.mem_cons.1 ((h b).2 List.mem_cons_self) with e | hb
        · exact e.symm
        · exact absurd (elt_trans (h1 b hb) (k1 a ha)) (elt_irrefl a)
    subst e
    rw [asc_ext l m h2 k2 fun e => ⟨fun he => ?_, fun he => ?_⟩]
    · rcases List.mem_cons.1 ((h e).1 (List.mem_cons_of_mem _ he)) with q | q
      · subst q; exact absurd (h1 _ he) (elt_irrefl _)
      · exact q
    · rcases List.mem_cons.1 ((h e).2 (List.mem_cons_of_mem _ he)) with q | q
      · subst q; exact absurd (k1 _ he) (elt_irrefl _)
      · exact q

/-! ### the program's -/

/-- The edge of two vertices. -/
def mkE (a b : Int) : Ed := ⟨min a b, max a b⟩

/-- One step of edgesOf. -/
def eadd (es : List Ed) (a b : Int) : List Ed := if a ≠ b ∧ mkE a b ∉ es then es ++ [mkE a b] else es

/-- edgesOf. -/
def eof (t : Tri) : List Ed := eadd (eadd (eadd [] t.x t.y) t.y t.z) t.z t.x

theorem eadd_mem {es : List Ed} {a b : Int} {e : Ed} : e ∈ eadd es a b ↔ e ∈ es ∨ a ≠ b ∧ e = mkE a b := by
  unfold eadd
  split
  · rename_i h
    rw [List.mem_append, List.mem_singleton]
    constructor
    · rintro (h1 | h1)
      · exact .inl h1
      · exact .inr ⟨h.1, h1⟩
    · rintro (h1 | h1)
      · exact .inl h1
      · exact .inr h1.2
  · rename_i h
    constructor
    · exact .inl
    · rintro (h1 | ⟨h1, h2⟩)
      · exact h1
      · subst h2
        exact Classical.byContradiction fun q => h ⟨h1, q⟩

theorem eadd_nodup {es : List Ed} {a b : Int} (h : es.Nodup) : (eadd es a b).Nodup := by
  unfold eadd
  split
  · rename_i k
    rw [List.nodup_append]
    refine ⟨h, by simp, fun x hx y hy e => ?_⟩
    rw [List.mem_singleton] at hy
    subst hy; subst e
    exact k.2 hx
  · exact h

theorem eof_nodup (t : Tri) : (eof t).Nodup := eadd_nodup (eadd_nodup (eadd_nodup List.nodup_nil))

/-- A triangle has an edge. -/
def hasE (t : Tri) (e : Ed) : Prop := e.x ≠ e.y ∧ (t.x = e.x ∨ t.y = e.x ∨ t.z = e.x) ∧ (t.x = e.y ∨ t.y = e.y ∨ t.z = e.y)

theorem eof_mem (t : Tri) (e : Ed) : e ∈ eof t ↔ hasE t e ∧ e.x < e.y := by
  unfold eof hasE
  rw [eadd_mem, eadd_mem, eadd_mem]
  obtain ⟨x, y⟩ := e
  obtain ⟨a, b, c⟩ := t
  simp only [mkE, List.not_mem_nil, false_or, Ed.mk.injEq]
  omega

theorem mkE_lt {a b : Int} (h : a ≠ b) : (mkE a b).x < (mkE a b).y := by simp only [mkE]; omega

/-- How many of the triangles have an edge. -/
def usesE (ts : List Tri) (e : Ed) : Nat := ts.countP fun t => decide (e ∈ eof t)

theorem count_all (ts : List Tri) (e : Ed) : (ts.flatMap eof).count e = usesE ts e := by
  unfold usesE
  induction ts with
  | nil => rfl
  | cons t ts ih =>
    rw [List.flatMap_cons, List.count_append, ih, List.countP_cons]
    by_cases h : e ∈ eof t
    · rw [if_pos (by simpa using h)]
      have h1 := List.count_pos_iff.2 h
      have h2 := List.nodup_iff_count.1 (eof_nodup t) e
      omega
    · rw [if_neg (by simpa using h), List.count_eq_zero.2 h]
      omega

/-- How many at the beginning of a list equal e. -/
def cfst (e : Ed) (l : List Ed) : Nat := (l.takeWhile fun x => decide (x = e)).length

theorem cfst_le (e : Ed) (l : List Ed) : cfst e l ≤ l.length := by
  unfold cfst
  induction l with
  | nil => simp
  | cons a l ih =>
    rw [List.takeWhile_cons]
    split
    · simp only [List.length_cons]; omega
    · simp

theorem cfst_in {e : Ed} : ∀ {l : List Ed} {k : Nat}, k < cfst e l → l[k]? = some e
  | [], k, h => by simp [cfst] at h
  | a :: l, k, h => by
    unfold cfst at h
    rw [List.takeWhile_cons] at h
    split at h
    · rename_i q
      have q : a = e := by simpa using q
      subst q
      cases k with
      | zero => rfl
      | succ k =>
        rw [List.getElem?_cons_succ]
        exact cfst_in (l := l) (by unfold cfst; simp only [List.length_cons] at h; omega)
    · simp at h

theorem cfst_out {e : Ed} : ∀ {l : List Ed}, cfst e l < l.length → ∃ x, l[cfst e l]? = some x ∧ x ≠ e
  | [], h => by simp at h
  | a :: l, h => by
    unfold cfst at h ⊢
    rw [List.takeWhile_cons] at h ⊢
    split at h
    · rename_i q
      rw [if_pos q]
      simp only [List.length_cons, List.getElem?_cons_succ] at h ⊢
      exact cfst_out (l := l) (by unfold cfst; omega)
    · rename_i q
      rw [if_neg q]
      exact ⟨a, rfl, by simpa using q⟩

theorem cfst_pos (e : Ed) (l : List Ed) : 0 < cfst e (e :: l) := by
  unfold cfst
  rw [List.takeWhile_cons, if_pos (by simp)]
  simp

/-- The first ones of the groups of two. -/
def grp : Nat → List Ed → List Ed
  | 0, _ => []
  | _ + 1, [] => []
  | f + 1, e :: l => (if cfst e (e :: l) = 2 then [e] else []) ++ grp f ((e :: l).drop (cfst e (e :: l)))

/-- Ascending: none is less than one ahead of it. -/
def wasc (l : List Ed) : Prop := l.Pairwise fun a b => ¬ elt b a

theorem wasc_drop {l : List Ed} (h : wasc l) (k : Nat) : wasc (l.drop k) := List.Pairwise.sublist (List.drop_sublist k l) h

/-- Behind the first group all are greater; before, all are alike. -/
theorem wasc_cut {e : Ed} : ∀ {l : List Ed}, (∀ x ∈ l, ¬ elt x e) → wasc l → l.count e = cfst e l ∧ (∀ x ∈ l.drop (cfst e l), elt e x)
  | [], _, _ => by simp [cfst]
  | a :: l, h0, h => by
    obtain ⟨h1, h2⟩ := List.pairwise_cons.1 h
    by_cases q : a = e
    · subst q
      obtain ⟨i1, i2⟩ := wasc_cut (e := a) (l := l) (fun x hx => h0 x (List.mem_cons_of_mem _ hx)) h2
      have e1 : cfst a (a :: l) = cfst a l + 1 := by unfold cfst; rw [List.takeWhile_cons, if_pos (by simp), List.length_cons]
      rw [e1, List.count_cons_self, i1]
      exact ⟨rfl, by rw [List.drop_succ_cons]; exact i2⟩
    · have e1 : cfst e (a :: l) = 0 := by unfold cfst; rw [List.takeWhile_cons, if_neg (by simpa using q)]; rfl
      have ha : elt e a := Classical.byContradiction fun n => q (elt_total (h0 a List.mem_cons_self) n)
      have all : ∀ x ∈ a :: l, elt e x := by
        intro x hx
        rcases List.mem_cons.1 hx with rfl | hx
        · exact ha
        · have h3 := h1 x hx
          by_cases k : elt a x
          · exact elt_trans ha k
          · rw [← elt_total k h3]; exact ha
      rw [e1, List.drop_zero]
      refine ⟨List.count_eq_zero.2 fun m => elt_irrefl e (all e m), all⟩

theorem count_drop {e y : Ed} {l : List Ed} (h : y ≠ e) : l.count y = (l.drop (cfst e l)).count y := by
  induction l with
  | nil => simp [cfst]
  | cons a l ih =>
    by_cases q : a = e
    · subst q
      have e1 : cfst a (a :: l) = cfst a l + 1 := by unfold cfst; rw [List.takeWhile_cons, if_pos (by simp), List.length_cons]
      rw [e1, List.drop_succ_cons, ← ih, List.count_cons_of_ne (fun z => h z.symm)]
    · have e1 : cfst e (a :: l) = 0 := by unfold cfst; rw [List.takeWhile_cons, if_neg (by simpa using q)]; rfl
      rw [e1, List.drop_zero]

theorem grp_spec : ∀ (f : Nat) (l : List Ed), l.length ≤ f → wasc l → asc (grp f l) ∧ (∀ y, y ∈ grp f l ↔ l.count y = 2)
  | 0, l, hl, _ => by
    have : l = [] := List.eq_nil_of_length_eq_zero (by omega)
    subst this
    simp [grp, asc]
  | f + 1, [], _, _ => by simp [grp, asc]
  | f + 1, e :: l, hl, h => by
    obtain ⟨h1, h2⟩ := List.pairwise_cons.1 h
    have h0 : ∀ x ∈ e :: l, ¬ elt x e := fun x hx => by
      rcases List.mem_cons.1 hx with rfl | hx
      · exact elt_irrefl _
      · exact h1 x hx
    obtain ⟨c1, c2⟩ := wasc_cut h0 h
    have hp := cfst_pos e l
    obtain ⟨i1, i2⟩ := grp_spec f ((e :: l).drop (cfst e (e :: l))) (by rw [List.length_drop]; simp only [List.length_cons] at hl ⊢; omega) (wasc_drop h _)
    have hm : ∀ y ∈ grp f ((e :: l).drop (cfst e (e :: l))), elt e y := fun y hy => c2 y (List.count_pos_iff.1 (by rw [(i2 y).1 hy]; omega))
    rw [grp]
    constructor
    · split
      · exact List.pairwise_cons.2 ⟨hm, i1⟩
      · exact i1
    · intro y
      rw [List.mem_append, i2]
      by_cases q : y = e
      · subst q
        have n0 : ((y :: l).drop (cfst y (y :: l))).count y = 0 := List.count_eq_zero.2 fun m => elt_irrefl y (c2 y m)
        rw [n0, c1]
        constructor
        · rintro (k | k)
          · split at k
            · assumption
            · simp at k
          · omega
        · intro k
          rw [if_pos k]
          simp
      · rw [← count_drop q]
        constructor
        · rintro (k | k)
          · split at k
            · rw [List.mem_singleton] at k; exact absurd k q
            · simp at k
          · exact k
        · exact .inr

/-- What Edges returns: strictly ascending, those of two triangles. -/
def isEdges (ts : List Tri) (l : List Ed) : Prop := asc l ∧ ∀ y, y ∈ l ↔ usesE ts y = 2

theorem isEdges_ext {ts : List Tri} {l m : List Ed} (h : isEdges ts l) (k : isEdges ts m) : l = m := asc_ext l m h.1 k.1 fun e => (h.2 e).trans (k.2 e).symm

theorem grp_edges {ts : List Tri} {d : List Ed} (hp : d.Perm (ts.flatMap eof)) (hs : wasc d) : isEdges ts (grp d.length d) := by
  obtain ⟨h1, h2⟩ := grp_spec d.length d (Nat.le_refl _) hs
  exact ⟨h1, fun y => by rw [h2, hp.count_eq, count_all]⟩

/-! ### the reference's -/

/-- with: at its place, once. -/
def ins (e : Ed) : List Ed → List Ed
  | [] => [e]
  | a :: l => if elt a e then a :: ins e l else if a = e then a :: l else e :: a :: l

theorem ins_mem (e y : Ed) : ∀ l, y ∈ ins e l ↔ y ∈ l ∨ y = e
  | [] => by simp [ins]
  | a :: l => by
    unfold ins
    split
    · rw [List.mem_cons, List.mem_cons, ins_mem e y l, or_assoc]
    · split
      · rename_i q
        subst q
        constructor
        · exact .inl
        · rintro (k | rfl)
          · exact k
          · exact List.mem_cons_self
      · rw [List.mem_cons (a := y) (b := e)]
        exact Or.comm

theorem ins_asc (e : Ed) : ∀ {l}, asc l → asc (ins e l)
  | [], _ => by simp [ins, asc]
  | a :: l, h => by
    obtain ⟨h1, h2⟩ := List.pairwise_cons.1 h
    unfold ins
    split
    · rename_i q
      refine List.pairwise_cons.2 ⟨fun y hy => ?_, ins_asc e h2⟩
      rcases (ins_mem e y l).1 hy with k | rfl
      · exact h1 y k
      · exact q
    · rename_i q
      split
      · exact h
      · rename_i q2
        have ha : elt e a := Classical.byContradiction fun n => q2 (elt_total q n)
        refine List.pairwise_cons.2 ⟨fun y hy => ?_, h⟩
        rcases List.mem_cons.1 hy with rfl | hy
        · exact ha
        · exact elt_trans ha (h1 y hy)

/-- Where with puts it. -/
def insAt (e : Ed) (l : List Ed) : Nat := (l.takeWhile fun a => decide (elt a e)).length

theorem insAt_le (e : Ed) (l : List Ed) : insAt e l ≤ l.length := by
  unfold insAt
  induction l with
  | nil => simp
  | cons a l ih =>
    rw [List.takeWhile_cons]
    split
    · simp only [List.length_cons]; omega
    · simp

theorem insAt_in {e : Ed} : ∀ {l : List Ed} {k : Nat}, k < insAt e l → ∃ x, l[k]? = some x ∧ elt x e
  | [], k, h => by simp [insAt] at h
  | a :: l, k, h => by
    unfold insAt at h
    rw [List.takeWhile_cons] at h
    split at h
    · rename_i q
      cases k with
      | zero => exact ⟨a, rfl, by simpa using q⟩
      | succ k =>
        rw [List.getElem?_cons_succ]
        exact insAt_in (l := l) (by unfold insAt; simp only [List.length_cons] at h; omega)
    · simp at h

theorem insAt_out {e : Ed} : ∀ {l : List Ed}, insAt e l < l.length → ∃ x, l[insAt e l]? = some x ∧ ¬ elt x e
  | [], h => by simp at h
  | a :: l, h => by
    unfold insAt at h ⊢
    rw [List.takeWhile_cons] at h ⊢
    split at h
    · rename_i q
      rw [if_pos q]
      simp only [List.length_cons, List.getElem?_cons_succ] at h ⊢
      exact insAt_out (l := l) (by unfold insAt; omega)
    · rename_i q
      rw [if_neg q]
      exact ⟨a, rfl, by simpa using q⟩

theorem ins_here {e : Ed} : ∀ {l : List Ed}, l[insAt e l]? = some e → ins e l = l
  | [], h => by simp at h
  | a :: l, h => by
    unfold insAt at h
    rw [List.takeWhile_cons] at h
    unfold ins
    split at h
    · rename_i q
      rw [if_pos (by simpa using q), ins_here (l := l) (by unfold insAt; simpa using h)]
    · rename_i q
      rw [if_neg (by simpa using q)]
      simp only [List.length_nil, List.getElem?_cons_zero, Option.some.injEq] at h
      rw [if_pos h]

theorem ins_new {e : Ed} : ∀ {l : List Ed}, l[insAt e l]? ≠ some e → ins e l = l.take (insAt e l) ++ [e] ++ l.drop (insAt e l)
  | [], _ => by simp [ins, insAt]
  | a :: l, h => by
    unfold insAt at h ⊢
    rw [List.takeWhile_cons] at h ⊢
    unfold ins
    split at h
    · rename_i q
      rw [if_pos (by simpa using q), if_pos q, ins_new (l := l) (by unfold insAt; simpa using h)]
      simp [insAt]
    · rename_i q
      rw [if_neg (by simpa using q), if_neg q]
      simp only [List.length_nil, List.getElem?_cons_zero, ne_eq, Option.some.injEq] at h
      rw [if_neg h]
      simp

/-- A corner's step of the reference's Edges. -/
def rstepE (ts : List Tri) (o : List Ed) (a b : Int) : List Ed := if a ≠ b ∧ usesE ts (mkE a b) = 2 then ins (mkE a b) o else o
def rtri (ts : List Tri) (o : List Ed) (t : Tri) : List Ed := rstepE ts (rstepE ts (rstepE ts o t.x t.y) t.y t.z) t.z t.x
def redg (ts : List Tri) (us : List Tri) : List Ed := us.foldl (rtri ts) []

theorem redg_snoc {ts us : List Tri} {k : Nat} {t : Tri} (h : us[k]? = some t) : redg ts (us.take (k + 1)) = rtri ts (redg ts (us.take k)) t := by
  obtain ⟨hk, rfl⟩ := List.getElem?_eq_some_iff.1 h
  rw [List.take_succ_eq_append_getElem hk]
  unfold redg
  rw [List.foldl_append]
  rfl

theorem rstepE_asc {ts : List Tri} {o : List Ed} {a b : Int} (h : asc o) : asc (rstepE ts o a b) := by
  unfold rstepE
  split
  · exact ins_asc _ h
  · exact h

theorem rstepE_mem {ts : List Tri} {o : List Ed} {a b : Int} {y : Ed} : y ∈ rstepE ts o a b ↔ y ∈ o ∨ a ≠ b ∧ y = mkE a b ∧ usesE ts y = 2 := by
  unfold rstepE
  split
  · rename_i h
    rw [ins_mem]
    constructor
    · rintro (k | rfl)
      · exact .inl k
      · exact .inr ⟨h.1, rfl, h.2⟩
    · rintro (k | k)
      · exact .inl k
      · exact .inr k.2.1
  · rename_i h
    constructor
    · exact .inl
    · rintro (k | ⟨k1, rfl, k3⟩)
      · exact k
      · exact absurd ⟨k1, k3⟩ h

theorem rtri_mem {ts : List Tri} {o : List Ed} {t : Tri} {y : Ed} : y ∈ rtri ts o t ↔ y ∈ o ∨ y ∈ eof t ∧ usesE ts y = 2 := by
  unfold rtri eof
  rw [rstepE_mem, rstepE_mem, rstepE_mem, eadd_mem, eadd_mem, eadd_mem]
  simp only [List.not_mem_nil, false_or]
  constructor
  · rintro (((h | ⟨h1, h2, h3⟩) | ⟨h1, h2, h3⟩) | ⟨h1, h2, h3⟩)
    · exact .inl h
    · exact .inr ⟨.inl (.inl ⟨h1, h2⟩), h3⟩
    · exact .inr ⟨.inl (.inr ⟨h1, h2⟩), h3⟩
    · exact .inr ⟨.inr ⟨h1, h2⟩, h3⟩
  · rintro (h | ⟨(⟨h1, h2⟩ | ⟨h1, h2⟩) | ⟨h1, h2⟩, h3⟩)
    · exact .inl (.inl (.inl h))
    · exact .inl (.inl (.inr ⟨h1, h2, h3⟩))
    · exact .inl (.inr ⟨h1, h2, h3⟩)
    · exact .inr ⟨h1, h2, h3⟩

theorem redg_edges (ts : List Tri) : isEdges ts (redg ts ts) := by
  have key : ∀ (us : List Tri) (o : List Ed), asc o → asc (us.foldl (rtri ts) o) ∧ ∀ y, y ∈ us.foldl (rtri ts) o ↔ y ∈ o ∨ (∃ t ∈ us, y ∈ eof t) ∧ usesE ts y = 2 := by
    intro us
    induction us with
    | nil => intro o h; exact ⟨h, fun y => by simp⟩
    | cons u us ih =>
      intro o h
      obtain ⟨i1, i2⟩ := ih (rtri ts o u) (rstepE_asc (rstepE_asc (rstepE_asc h)))
      refine ⟨i1, fun y => ?_⟩
      rw [List.foldl_cons, i2, rtri_mem]
      constructor
      · rintro ((k | ⟨k1, k2⟩) | ⟨⟨t, k1, k2⟩, k3⟩)
        · exact .inl k
        · exact .inr ⟨⟨u, List.mem_cons_self, k1⟩, k2⟩
        · exact .inr ⟨⟨t, List.mem_cons_of_mem _ k1, k2⟩, k3⟩
      · rintro (k | ⟨⟨t, k1, k2⟩, k3⟩)
        · exact .inl (.inl k)
        · rcases List.mem_cons.1 k1 with rfl | k1
          · exact .inl (.inr ⟨k2, k3⟩)
          · exact .inr ⟨⟨t, k1, k2⟩, k3⟩
  obtain ⟨h1, h2⟩ := key ts [] List.Pairwise.nil
  refine ⟨h1, fun y => ?_⟩
  unfold redg
  rw [h2]
  constructor
  · rintro (k | k)
    · simp at k
    · exact k.2
  · intro k
    refine .inr ⟨?_, k⟩
    have hp : 0 < usesE ts y := by omega
    obtain ⟨t, h3, h4⟩ := List.countP_pos_iff.1 hp
    exact ⟨t, h3, by simpa using h4⟩

end Go.Proofs.Ytepammildggnmaa
