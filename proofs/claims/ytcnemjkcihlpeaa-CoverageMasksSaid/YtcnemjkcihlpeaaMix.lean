/- A region that draws its order: reads and calls of one value (that only add blocks) and allocations in whatever order, behind them stores and assignments in one forced order. ONE walk of the head in the text's order, ONE of the tail; the new blocks are letters. No program is named here. -/
import Derived.Test.YtcnemjkcihlpeaaTail
import Derived.Test.YtcnemjkcihlpeaaCopy
import Derived.Test.YtcnemjkcihlpeaaTree
namespace Go.Proofs.Ytcnemjkcihlpeaa
set_option linter.unusedSimpArgs false
open Go.RowKit Go.Sort Go.ChangeShapes Go.WideShapes
set_option linter.unusedVariables false

section
variable {P : Program} {ops : Array Oper} {md : Region.Mode}

/-- What is behind U: it only drew and added blocks. -/
def Upon (U W : World) : Prop := ∃ p : Regrown, W = grow (redrawn U p.d) p.os

theorem Upon.refl (W : World) : Upon W W := regrown_of_below (Below.refl _ _)
theorem Upon.below {U W : World} (h : Upon U W) : Below U.heap.size U W := by obtain ⟨p, rfl⟩ := h; exact below_regrown _ _ _

/-- A slot that no operation to come writes is at the end as it is. -/
theorem anyQ_keeps {C : World → Prop} {af : Act} {d : Nat} : ∀ (f : Nat) (L : Array Bool) (a : Act), wpAnyQ P md ops C (fun a' => a' = af) f L a →
    (∀ j o, ops[j]? = some o → L.getD j true = false → o.dst ≠ some d) → a.tmps[d]? = af.tmps[d]?
  | 0, L, a, h, hd => by rw [h.2]
  | f + 1, L, a, h, hd => by
    cases hr : Region.ready md ops L with
    | nil => rw [h.1 hr]
    | cons i r =>
      have hi : i ∈ Region.ready md ops L := by rw [hr]; simp
      obtain ⟨hun, o, ho, _⟩ := mem_ready.1 hi
      obtain ⟨v, _, hK⟩ := yieldsIn_of_qOp ho (h.2 i hi)
      have h2 := anyQ_keeps f _ _ hK (fun j oj hj hl => hd j oj hj (by
        by_cases e : i = j
        · subst e; exact hun
        · rwa [getD_set_ne true e] at hl))
      rw [← h2]
      have hne := hd i o ho hun
      cases hdst : o.dst with
      | none => rfl
      | some d' =>
        have : d' ≠ d := fun e => hne (by rw [hdst, e])
        simp [Act.put, Array.getElem?_setIfInBounds_ne this]

/-- What one operation leaves is the same over every world. -/
theorem anyQ_unif {B : World → Prop} {af : Act} {f i : Nat} {L : Array Bool} {a : Act} {o : Oper} (hi : i ∈ Region.ready md ops L) (ho : ops[i]? = some o)
    (hd : ∀ d, o.dst = some d → ∀ j oj, ops[j]? = some oj → j ≠ i → L.getD j true = false → oj.dst ≠ some d) (V : ∀ U, B U → wpAnyQ P md ops (Upon U) (fun a' => a' = af) (f + 1) L a) :
    ∃ a1, ∀ U, B U → ∃ v, YieldsIn P ops (Upon U) o v a ∧ a.put o.dst v = a1 ∧ wpAnyQ P md ops (Upon U) (fun a' => a' = af) f (L.setIfInBounds i true) a1 := by
  refine ⟨a.put o.dst ((o.dst.bind (af.tmps[·]?)).getD undef), fun U hU => ?_⟩
  obtain ⟨v, hy, hK⟩ := yieldsIn_of_qOp ho ((V U hU).2 i hi)
  have hun := (mem_ready.1 hi).1
  have key : a.put o.dst v = a.put o.dst ((o.dst.bind (af.tmps[·]?)).getD undef) := by
    cases hdst : o.dst with
    | none => rfl
    | some d =>
      rw [hdst] at hK
      have h1 := anyQ_keeps (d := d) _ _ _ hK (fun j oj hj hl => by
        by_cases e : i = j
        · subst e
          have hlt : i < L.size := by
            rcases Nat.lt_or_ge i L.size with h' | h'
            · exact h'
            · simp [Array.getElem?_eq_none h'] at hun
          simp [hlt] at hl
        · rw [getD_set_ne true e] at hl
          exact hd d hdst j oj hj (Ne.symm e) hl)
      rcases Nat.lt_or_ge d a.tmps.size with h' | h'
      · have h2 : af.tmps[d]? = some v := by rw [← h1]; simp [Act.put, h']
        simp [h2]
      · simp [Act.put, Array.setIfInBounds_eq_of_size_le h']
  exact ⟨v, hy, key, key ▸ hK⟩

/-- An operation that reads, reckons or hands on. -/
def floatOp (o : Oper) : Bool := o.dst.isSome && (valueOp o || match o.op with | .extract _ _ => true | _ => false)

theorem float_value {o : Oper} {ρ : Operand → Value} {n : Next} {W V : World} (hf : floatOp o = true) (h : (execOp ρ o).run P W = .ok n V) : ∃ x, n = .value x := by
  unfold floatOp at hf
  simp only [Bool.and_eq_true, Bool.or_eq_true] at hf
  rcases hf.2 with hv | hv
  · exact value_of hv h
  · unfold execOp at h
    cases ho : o.op <;> rw [ho] at hv h <;> simp only [reduceCtorEq, Bool.false_eq_true] at hv
    exact value_v h

/-- It yields the same in every world behind w. -/
theorem float_yields {o : Oper} {a a1 : Act} {w W : World} (hf : floatOp o = true) (hd : ∀ d, o.dst = some d → d < a.tmps.size) (hW : Below w.heap.size w W)
    (V : ∀ U, Below w.heap.size w U → ∃ v, YieldsIn P ops (Upon U) o v a ∧ a.put o.dst v = a1) : ∃ v, YieldsIf P ops (fun W => Below w.heap.size w W) o v a ∧ a.put o.dst v = a1 := by
  obtain ⟨v, hy, hp⟩ := V W hW
  obtain ⟨d, hds⟩ : ∃ d, o.dst = some d := by
    unfold floatOp at hf
    simp only [Bool.and_eq_true] at hf
    exact Option.isSome_iff_exists.1 hf.1
  have hlt := hd d hds
  have huni : ∀ u, a.put o.dst u = a1 → u = v := fun u hu => by
    have h1 : (a.put o.dst u).tmps[d]? = (a.put o.dst v).tmps[d]? := by rw [hu, hp]
    rw [hds] at h1
    simpa [Act.put, hlt] using h1
  refine ⟨v, ?_, hp⟩
  by_cases hw : Region.wanted o (yielded ops a.tmps) = true
  · refine .inl ⟨hw, fun U hU => ?_⟩
    obtain ⟨u, hyu, hpu⟩ := V U hU
    obtain rfl := huni u hpu
    rcases hyu with ⟨_, hv⟩ | ⟨hn, _⟩
    · have h1 := hv U (Upon.refl U)
      unfold Oper.quietAt at h1
      cases hr : (execOp a.eval o).run P U with
      | ok n w' =>
        obtain ⟨x, rfl⟩ := float_value hf hr
        rw [hr] at h1
        simp only [Oper.quietUpon] at h1
        obtain ⟨rfl, rfl⟩ := h1
        rfl
      | halt x w' => rw [hr] at h1; simp only [Oper.quietUpon] at h1
    · rw [hw] at hn; cases hn
  · rcases hy with ⟨h1, _⟩ | ⟨h1, h2⟩
    · exact absurd h1 hw
    · exact .inr ⟨h1, h2⟩

/-- The new variables: which of them are laid, and where. -/
def putS : List Oper → List (Option Nat) → Act → Act
  | o :: al, some b :: s, a => putS al s (a.put o.dst (.pointer (some ⟨b, 0, none⟩)))
  | _ :: al, none :: s, a => putS al s a
  | _, _, a => a

/-- o looks at none of these results and writes to none. -/
def farFrom (ops : Array Oper) (o : Oper) (al : List Oper) : Prop := ∀ x ∈ al, x.apart ops o = true

theorem put_putS {o : Oper} {v : Value} : ∀ (al : List Oper) (s : List (Option Nat)) (a : Act), (∀ x ∈ al, ∀ d, o.dst = some d → x.dst ≠ some d) → (putS al s a).put o.dst v = putS al s (a.put o.dst v)
  | [], s, a, _ => by cases s <;> rfl
  | x :: al, [], a, _ => rfl
  | x :: al, none :: s, a, h => put_putS al s a fun y hy => h y (List.mem_cons_of_mem _ hy)
  | x :: al, some b :: s, a, h => by
    unfold putS
    rw [put_putS al s _ fun y hy => h y (List.mem_cons_of_mem _ hy)]
    rw [Act.put_comm a (x := x.dst) (y := o.dst) _ v fun d hd e => h x (List.mem_cons_self ..) d e hd]

theorem exec_putS {o : Oper} (hs : ∀ cs b, o.op ≠ .select cs b) : ∀ (al : List Oper) (s : List (Option Nat)) (a : Act), farFrom ops o al → execOp (putS al s a).eval o = execOp a.eval o ∧ Region.wanted o (yielded ops (putS al s a).tmps) = Region.wanted o (yielded ops a.tmps)
  | [], s, a, _ => by cases s <;> exact ⟨rfl, rfl⟩
  | x :: al, [], a, _ => ⟨rfl, rfl⟩
  | x :: al, none :: s, a, h => exec_putS hs al s a fun y hy => h y (List.mem_cons_of_mem _ hy)
  | x :: al, some b :: s, a, h => by
    unfold putS
    have h1 := exec_putS hs al s (a.put x.dst (.pointer (some ⟨b, 0, none⟩))) fun y hy => h y (List.mem_cons_of_mem _ hy)
    have h2 := (Oper.apart_spec (h x (List.mem_cons_self ..))).1
    rw [h1.1, h1.2, execOp_put o hs a x.dst _ h2, wanted_put o a x.dst _ h2]
    exact ⟨rfl, rfl⟩

/-- One more laid. -/
theorem putS_set {k : Nat} {o : Oper} {b : Nat} : ∀ (al : List Oper) (s : List (Option Nat)) (a : Act), al[k]? = some o → s[k]? = some none → (∀ j x, al[j]? = some x → j ≠ k → ∀ d, o.dst = some d → x.dst ≠ some d) →
    (putS al s a).put o.dst (.pointer (some ⟨b, 0, none⟩)) = putS al (s.set k (some b)) a := by
  induction k with
  | zero =>
    intro al s a ha hs hd
    cases al with
    | nil => cases ha
    | cons x al =>
      cases s with
      | nil => cases hs
      | cons y s =>
        simp only [List.getElem?_cons_zero, Option.some.injEq] at ha hs
        subst ha hs
        simp only [List.set_cons_zero]
        unfold putS
        exact put_putS al s a fun y hy d hd' => by
          obtain ⟨j, hj⟩ := List.getElem?_of_mem hy
          exact hd (j + 1) y (by simpa using hj) (by omega) d hd'
  | succ k ih =>
    intro al s a ha hs hd
    cases al with
    | nil => cases ha
    | cons x al =>
      cases s with
      | nil => cases hs
      | cons y s =>
        simp only [List.getElem?_cons_succ] at ha hs
        have hd' : ∀ j x, al[j]? = some x → j ≠ k → ∀ d, o.dst = some d → x.dst ≠ some d := fun j x hj hne => hd (j + 1) x (by simpa using hj) (by omega)
        simp only [List.set_cons_succ]
        cases y with
        | none => exact ih al s a ha hs hd'
        | some c => exact ih al s _ ha hs hd'

/-- What is known of the world: all that lay ahead of w, and the new variables' blocks. -/
def Laid (w : World) (zs : List (Array Value)) (s : List (Option Nat)) (W : World) : Prop :=
  Below w.heap.size w W ∧ (∀ (k b : Nat) (z : Array Value), s[k]? = some (some b) → zs[k]? = some z → w.heap.size ≤ b ∧ EBox W b z.toList) ∧ (∀ j k b : Nat, s[j]? = some (some b) → s[k]? = some (some b) → j = k)

theorem Laid.on {w W V : World} {zs : List (Array Value)} {s : List (Option Nat)} (h : Laid w zs s W) (hz : ∀ y : Array Value, y ∈ zs → 0 < y.toList.length) (B : Below W.heap.size W V) : Laid w zs s V :=
  ⟨bon h.1 B, fun k b z hk hz' => ⟨(h.2.1 k b z hk hz').1, (h.2.1 k b z hk hz').2.on (hz z (List.mem_of_getElem? hz')) B⟩, h.2.2⟩

theorem Laid.more {w W : World} {zs : List (Array Value)} {s : List (Option Nat)} {k : Nat} {z : Array Value} {t : TypeId} (h : Laid w zs s W) (hz : ∀ y : Array Value, y ∈ zs → 0 < y.toList.length) (hl : s.length = zs.length) (hk : zs[k]? = some z) (hs : s[k]? = some none) :
    Laid w zs (s.set k (some W.heap.size)) (W.alloc (.cells z t)) := by
  have B := box_below W z t
  have lt : ∀ j b, s[j]? = some (some b) → b < W.heap.size := fun j b hj => by
    obtain ⟨zj, hzj⟩ : ∃ x, zs[j]? = some x := ⟨_, List.getElem?_eq_getElem (by have := (List.getElem?_eq_some_iff.1 hj).1; omega)⟩
    exact (h.2.1 j b zj hj hzj).2.lt (hz _ (List.mem_of_getElem? hzj))
  refine ⟨bon h.1 B, fun j b y hj hy => ?_, fun i j b hi hj => ?_⟩
  · by_cases e : k = j
    · subst e
      rw [List.getElem?_set_self (List.getElem?_eq_some_iff.1 hs).1] at hj
      injection hj with hj
      injection hj with hj
      subst hj
      rw [hk] at hy
      injection hy with hy
      subst hy
      exact ⟨h.1.size, EBox.made _ _ _⟩
    · rw [List.getElem?_set_ne e] at hj
      exact ⟨(h.2.1 j b y hj hy).1, (h.2.1 j b y hj hy).2.on (hz y (List.mem_of_getElem? hy)) B⟩
  · by_cases e : k = i <;> by_cases e' : k = j
    · omega
    · subst e
      rw [List.getElem?_set_self (List.getElem?_eq_some_iff.1 hs).1] at hi
      rw [List.getElem?_set_ne e'] at hj
      injection hi with hi
      injection hi with hi
      have := lt j b hj
      omega
    · subst e'
      rw [List.getElem?_set_self (List.getElem?_eq_some_iff.1 hs).1] at hj
      rw [List.getElem?_set_ne e] at hi
      injection hj with hj
      injection hj with hj
      have := lt i b hi
      omega
    · rw [List.getElem?_set_ne e] at hi
      rw [List.getElem?_set_ne e'] at hj
      exact h.2.2 i j b hi hj

def dstNe (x y : Oper) : Bool := match x.dst with | some d => y.dst != some d | none => true

theorem dstNe_spec {x y : Oper} (h : dstNe x y = true) : ∀ d, x.dst = some d → y.dst ≠ some d := fun d hd => by
  unfold dstNe at h
  rw [hd] at h
  simpa using h

/-- An allocation that waits for nothing. -/
def allocOp (md : Region.Mode) (o : Oper) : Bool := o.guard.isNone && o.dst.isSome && (match o.op with | .alloc _ => true | _ => false) && o.after.all fun e => !Region.binds md e

def get2 (ops : Array Oper) (i j : Nat) (f : Oper → Oper → Bool) : Bool := match ops[i]?, ops[j]? with | some x, some y => f x y | _, _ => false

/-- t waits for j, if need be by way of others. -/
def waitsD (md : Region.Mode) (ops : Array Oper) : Nat → Nat → Nat → Bool
  | 0, t, j => Region.waitsFor md ops t j
  | d + 1, t, j => Region.waitsFor md ops t j || (List.range t).any fun k => Region.waitsFor md ops t k && waitsD md ops d k j

/-- The tail, one behind another. -/
def tailT : Nat → Nat → Tr
  | 0, _ => .nil
  | g + 1, k => .fork1 k (tailT g (k + 1))

/-- The region's shape: n reads and calls, m allocations, the rest one behind another. -/
def mixB (md : Region.Mode) (ops : Array Oper) (fl : Bool) (n m : Nat) : Bool :=
  Region.noSelect ops && decide (n + m ≤ ops.size) &&
  (List.range n).all (fun t => get2 ops t t fun o _ => o.after.all fun e => !Region.binds md e || decide (e.on < t)) &&
  (List.range m).all (fun k => get2 ops (n + k) (n + k) fun o _ => allocOp md o) &&
  (List.range m).all (fun k => (List.range (n + m)).all fun j => j == n + k || get2 ops (n + k) j fun x y => x.apart ops y) &&
  (List.range n).all (fun i => (List.range n).all fun j => j == i || get2 ops i j dstNe) &&
  (List.range ops.size).all (fun t => decide (t < n + m) || (List.range (n + m)).all fun j => get2 ops j j (fun o _ => fl && decide (j < n) && floatOp o) || waitsD md ops 8 t j) &&
  (List.range n).all (fun i => get2 ops i i (fun o _ => !floatOp o) || (List.range ops.size).all fun j => j == i || Region.waitsFor md ops j i || Region.waitsFor md ops i j || get2 ops i j fun x y => x.apart ops y) &&
  Region.lexFrom md ops n 0 (List.replicate n false ++ List.replicate (ops.size - n) true).toArray &&
  treeB md ops (ops.size - (n + m)) (tailT (ops.size - (n + m)) (n + m)) (List.replicate (n + m) true ++ List.replicate (ops.size - (n + m)) false).toArray

structure MixOk (md : Region.Mode) (ops : Array Oper) (fl : Bool) (n m : Nat) : Prop where
  sel : Region.noSelect ops = true
  size : n + m ≤ ops.size
  head : ∀ t o, t < n → ops[t]? = some o → ∀ e ∈ o.after, Region.binds md e = true → e.on < t
  alloc : ∀ k, k < m → ∃ o, ops[n + k]? = some o ∧ allocOp md o = true
  apart : ∀ k j x y, k < m → j < n + m → j ≠ n + k → ops[n + k]? = some x → ops[j]? = some y → x.apart ops y = true
  dst : ∀ i j x y, i < n → j < n → j ≠ i → ops[i]? = some x → ops[j]? = some y → ∀ d, x.dst = some d → y.dst ≠ some d
  late : ∀ t j, n + m ≤ t → t < ops.size → j < n + m → (∃ o, ops[j]? = some o ∧ j < n ∧ fl = true ∧ floatOp o = true) ∨ waitsD md ops 8 t j = true
  free : ∀ i x, i < n → ops[i]? = some x → floatOp x = true → ∀ j y, ops[j]? = some y → j ≠ i → Region.waitsFor md ops j i = true ∨ Region.waitsFor md ops i j = true ∨ x.apart ops y = true

theorem get2_spec {i j : Nat} {f : Oper → Oper → Bool} (h : get2 ops i j f = true) : ∃ x y, ops[i]? = some x ∧ ops[j]? = some y ∧ f x y = true := by
  unfold get2 at h
  split at h
  · rename_i x y hx hy
    exact ⟨x, y, hx, hy, h⟩
  · cases h

theorem mixOk_of {fl : Bool} {n m : Nat} (h : mixB md ops fl n m = true) : MixOk md ops fl n m ∧ Region.lexFrom md ops n 0 (List.replicate n false ++ List.replicate (ops.size - n) true).toArray = true ∧
    treeB md ops (ops.size - (n + m)) (tailT (ops.size - (n + m)) (n + m)) (List.replicate (n + m) true ++ List.replicate (ops.size - (n + m)) false).toArray = true := by
  unfold mixB at h
  simp only [Bool.and_eq_true, decide_eq_true_eq] at h
  obtain ⟨⟨⟨⟨⟨⟨⟨⟨⟨h0, h1⟩, h2⟩, h3⟩, h4⟩, h5⟩, h6⟩, h7⟩, h8⟩, h9⟩ := h
  refine ⟨⟨h0, h1, fun t o ht ho e he hb => ?_, fun k hk => ?_, fun k j x y hk hj hne hx hy => ?_, fun i j x y hi hj hne hx hy => ?_, fun t j ht ht2 hj => ?_, fun i x hi hx hf j y hy hne => ?_⟩, h8, h9⟩
  · obtain ⟨x, _, hx, _, hf⟩ := get2_spec (List.all_eq_true.1 h2 t (List.mem_range.2 ht))
    obtain rfl : x = o := Option.some.inj (hx.symm.trans ho)
    have := Array.all_eq_true'.1 hf e he
    rw [hb] at this
    simpa using this
  · obtain ⟨x, _, hx, _, hf⟩ := get2_spec (List.all_eq_true.1 h3 k (List.mem_range.2 hk))
    exact ⟨x, hx, hf⟩
  · have := List.all_eq_true.1 (List.all_eq_true.1 h4 k (List.mem_range.2 hk)) j (List.mem_range.2 hj)
    rw [Bool.or_eq_true] at this
    rcases this with h | h
    · exact absurd (by simpa using h) hne
    · obtain ⟨x', y', hx', hy', hf⟩ := get2_spec h
      obtain rfl : x' = x := Option.some.inj (hx'.symm.trans hx)
      obtain rfl : y' = y := Option.some.inj (hy'.symm.trans hy)
      exact hf
  · have := List.all_eq_true.1 (List.all_eq_true.1 h5 i (List.mem_range.2 hi)) j (List.mem_range.2 hj)
    rw [Bool.or_eq_true] at this
    rcases this with h | h
    · exact absurd (by simpa using h) hne
    · obtain ⟨x', y', hx', hy', hf⟩ := get2_spec h
      obtain rfl : x' = x := Option.some.inj (hx'.symm.trans hx)
      obtain rfl : y' = y := Option.some.inj (hy'.symm.trans hy)
      exact dstNe_spec hf
  · have := List.all_eq_true.1 h6 t (List.mem_range.2 ht2)
    rw [Bool.or_eq_true] at this
    rcases this with h | h
    · exact absurd (by simpa using h) (by omega)
    · have := List.all_eq_true.1 h j (List.mem_range.2 hj)
      rw [Bool.or_eq_true] at this
      refine this.imp (fun h => ?_) id
      obtain ⟨x, _, hx, _, hf⟩ := get2_spec h
      simp only [Bool.and_eq_true, decide_eq_true_eq] at hf
      exact ⟨x, hx, hf.1.2, hf.1.1, hf.2⟩
  · have := List.all_eq_true.1 h7 i (List.mem_range.2 hi)
    rw [Bool.or_eq_true] at this
    rcases this with h | h
    · obtain ⟨x', _, hx', _, hf'⟩ := get2_spec h
      obtain rfl : x' = x := Option.some.inj (hx'.symm.trans hx)
      rw [hf] at hf'
      cases hf'
    · have h := List.all_eq_true.1 h j (List.mem_range.2 (Array.getElem?_eq_some_iff.1 hy).1)
      rw [Bool.or_eq_true, Bool.or_eq_true, Bool.or_eq_true] at h
      rcases h with ((h | h) | h) | h
      · exact absurd (by simpa using h) hne
      · exact .inl h
      · exact .inr (.inl h)
      · obtain ⟨x', y', hx', hy', hf'⟩ := get2_spec h
        obtain rfl : x' = x := Option.some.inj (hx'.symm.trans hx)
        obtain rfl : y' = y := Option.some.inj (hy'.symm.trans hy)
        exact .inr (.inr hf')

/-- What is listed: of the head, of the allocations, of the tail nothing. -/
def Lst (h : List Bool) (s : List (Option Nat)) (g : Nat) : Array Bool := (h ++ (s.map Option.isSome ++ List.replicate g false)).toArray

theorem lst_head {h : List Bool} {s : List (Option Nat)} {g j : Nat} {d : Bool} (hj : j < h.length) : (Lst h s g).getD j d = h.getD j d := by
  simp [Lst, List.getElem?_append_left hj]

theorem lst_mid {h : List Bool} {s : List (Option Nat)} {g k : Nat} {d : Bool} {x : Option Nat} (hk : s[k]? = some x) : (Lst h s g).getD (h.length + k) d = x.isSome := by
  have hlt := (List.getElem?_eq_some_iff.1 hk).1
  simp [Lst, List.getElem?_append_right (show h.length ≤ h.length + k by omega), List.getElem?_append_left (show k < (s.map Option.isSome).length by simpa using hlt), hk]

theorem lst_late {h : List Bool} {s : List (Option Nat)} {g j : Nat} {d : Bool} (hj : h.length + s.length ≤ j) (hj2 : j < h.length + s.length + g) : (Lst h s g).getD j d = false := by
  simp [Lst, List.getElem?_append_right (show h.length ≤ j by omega), List.getElem?_append_right (show (s.map Option.isSome).length ≤ j - h.length by simp; omega), show j - h.length - s.length < g by omega]

theorem lst_set {h : List Bool} {s : List (Option Nat)} {g i : Nat} (hi : i < h.length) : (Lst h s g).setIfInBounds i true = Lst (h.set i true) s g := by
  simp [Lst, List.set_append_left i true hi]

theorem lst_set2 {h : List Bool} {s : List (Option Nat)} {g k b : Nat} (hk : k < s.length) : (Lst h s g).setIfInBounds (h.length + k) true = Lst h (s.set k (some b)) g := by
  simp [Lst, List.set_append_right (h.length + k) true (show h.length ≤ h.length + k by omega), List.set_append_left k true (show k < (s.map Option.isSome).length by simpa using hk), List.map_set]

theorem count_set {h : List Bool} {i f : Nat} (hi : h[i]? = some false) (hc : h.count false = f + 1) : (h.set i true).count false = f := by
  obtain ⟨hlt, he⟩ := List.getElem?_eq_some_iff.1 hi
  rw [List.count_set hlt, he, hc]; simp

/-- The listed ones are closed under what they wait for. -/
theorem closed_set {fl : Bool} {n m : Nat} (M : MixOk md ops fl n m) {h : List Bool} {i : Nat} (hn : h.length = n) (hi : i < n) (hall : ∀ j, Region.waitsFor md ops i j = true → h[j]? = some true)
    (hcl : ∀ k j, k < n → h[k]? = some true → Region.waitsFor md ops k j = true → h[j]? = some true) : ∀ k j, k < n → (h.set i true)[k]? = some true → Region.waitsFor md ops k j = true → (h.set i true)[j]? = some true := by
  intro k j hk hkt hw
  have key : h[j]? = some true := by
    by_cases e : i = k
    · subst e; exact hall j hw
    · rw [List.getElem?_set_ne e] at hkt
      exact hcl k j hk hkt hw
  by_cases e : i = j
  · subst e; rw [List.getElem?_set_self (by omega)]
  · rw [List.getElem?_set_ne e]; exact key

section
variable {fl : Bool} {n m : Nat} {w : World} {af : Act} {al : List Oper} {zs : List (Array Value)} {Q : Exit → Act → World → Prop} {tr : Tr}

theorem mix_late (M : MixOk md ops fl n m) (htr : treeB md ops (ops.size - (n + m)) tr (List.replicate (n + m) true ++ List.replicate (ops.size - (n + m)) false).toArray = true)
    (hal : al.length = m) (hao : ∀ k, k < m → al[k]? = ops[n + k]?) (hP : ∀ c a w, ¬ Q (.panic c) a w) (N : Nat) (hN : ∀ i o, i < n → ops[i]? = some o → ∀ d, o.dst = some d → d < N)
    (hT : ∀ s W, s.length = m → (∀ k, k < m → ∃ b, s[k]? = some (some b)) → Laid w zs s W → wpTr P ops Q (fun W => fl = true → Below w.heap.size w W) tr (putS al s af) W) :
    ∀ (f : Nat) (h : List Bool) (s : List (Option Nat)) (aq : Act) (W : World), h.length = n → s.length = m → h.count false = f → aq.tmps.size = N → (∀ k, k < m → ∃ b, s[k]? = some (some b)) →
      (∀ i o, i < n → ops[i]? = some o → (fl && floatOp o) = false → h[i]? = some true) →
      (∀ U, Below w.heap.size w U → wpAnyQ P md ops (Upon U) (fun a' => a' = af) f (h ++ List.replicate (ops.size - n) true).toArray aq) → Laid w zs s W →
      wpAnyH P md ops Q (fun W => fl = true → Below w.heap.size w W) (f + (ops.size - (n + m))) (Lst h s (ops.size - (n + m))) (putS al s aq) W := by
  intro f
  induction f with
  | zero =>
    intro h s aq W hn hs hc _ hsa _ V hL
    have hh : h = List.replicate n true := by
      apply List.eq_replicate_iff.2
      refine ⟨hn, fun b hb => ?_⟩
      cases b with
      | true => rfl
      | false => exact absurd hb (List.count_eq_zero.1 hc)
    obtain rfl : aq = af := (V W hL.1).2
    rw [Nat.zero_add]
    have hm : s.map Option.isSome = List.replicate m true := by
      apply List.eq_replicate_iff.2
      refine ⟨by simpa using hs, fun b hb => ?_⟩
      obtain ⟨x, hx, rfl⟩ := List.mem_map.1 hb
      obtain ⟨k, hk⟩ := List.getElem?_of_mem hx
      obtain ⟨b, hb⟩ := hsa k (by have := (List.getElem?_eq_some_iff.1 hk).1; omega)
      rw [hk] at hb
      injection hb with hb
      subst hb
      rfl
    have hlist : Lst h s (ops.size - (n + m)) = (List.replicate (n + m) true ++ List.replicate (ops.size - (n + m)) false).toArray := by
      unfold Lst
      rw [hh, hm, ← List.append_assoc, List.replicate_append_replicate]
    rw [hlist]
    exact wpAnyH_of_tree M.sel hP _ tr _ _ W htr (fun _ => hL.1) (hT s W hs hsa hL)
  | succ f ih =>
    intro h s aq W hn hs hc hsz hsa hfl V hL
    obtain ⟨i, hi, hb⟩ := first_false h (by omega)
    have hin : i < n := by rw [← hn]; exact (List.getElem?_eq_some_iff.1 hi).1
    obtain ⟨o, ho⟩ : ∃ o, ops[i]? = some o := ⟨_, Array.getElem?_eq_getElem (by have := M.size; omega)⟩
    have hff : (fl && floatOp o) = true := by
      cases hf : (fl && floatOp o) with
      | true => rfl
      | false =>
        have := hfl i o hin ho hf
        rw [hi] at this
        cases this
    rw [Bool.and_eq_true] at hff
    obtain ⟨hflt, hfo⟩ := hff
    have hdep : ∀ e ∈ o.after, Region.binds md e = true → h[e.on]? = some true := fun e he hb' => hb _ (M.head i o hin ho e he hb')
    have hrV : i ∈ Region.ready md ops (h ++ List.replicate (ops.size - n) true).toArray := mem_ready.2 ⟨by rw [getD_app (by omega)]; simp [hi], o, ho, fun e he hb' => by
      have := hdep e he hb'
      rw [getD_app (List.getElem?_eq_some_iff.1 this).1]; simp [this]⟩
    have hrL : i ∈ Region.ready md ops (Lst h s (ops.size - (n + m))) := mem_ready.2 ⟨by rw [lst_head (by omega)]; simp [hi], o, ho, fun e he hb' => by
      have := hdep e he hb'
      rw [lst_head (List.getElem?_eq_some_iff.1 this).1]; simp [this]⟩
    obtain ⟨a1, V1⟩ := anyQ_unif hrV ho (fun d hd j oj hj hne hl => by
      by_cases hjn : j < n
      · exact M.dst i j o oj hin hjn hne ho hj d hd
      · have hjs := (Array.getElem?_eq_some_iff.1 hj).1
        rw [getD_tail (by omega) (by omega)] at hl
        cases hl) V
    obtain ⟨v, hy0, hp⟩ := float_yields hfo (fun d hd => by rw [hsz]; exact hN i o hin ho d hd) hL.1 (fun U hU => by obtain ⟨v, h1, h2, _⟩ := V1 U hU; exact ⟨v, h1, h2⟩)
    have hy : YieldsIf P ops (fun W => fl = true → Below w.heap.size w W) o v aq := hy0.imp (fun h => ⟨h.1, fun U hU => h.2 U (hU hflt)⟩) id
    have hfar : farFrom ops o al := fun x hx => by
      obtain ⟨k, hk⟩ := List.getElem?_of_mem hx
      have hkm : k < m := by have := (List.getElem?_eq_some_iff.1 hk).1; omega
      exact M.apart k i x o hkm (by omega) (by omega) (by rw [← hao k hkm]; exact hk) ho
    have hsel := Region.noSelect_spec M.sel
    have hy2 := hy.of_same (exec_putS (hsel i o · · ho) al s aq hfar).1 (exec_putS (hsel i o · · ho) al s aq hfar).2
    rw [show f + 1 + (ops.size - (n + m)) = (f + (ops.size - (n + m))) + 1 by omega]
    refine wpAnyH_first ho hsel (fun c a w h => absurd h (hP c _ w)) _ _ _ _ (fun j oj hj hne hl hno => ?_) hrL hy2 (fun _ => hL.1) ?_
    · rcases M.free i o hin ho hfo j oj hj hne with h1 | h1 | h1
      · obtain ⟨o', ho', e, he, hb', hon⟩ := Region.waitsFor_spec h1
        obtain rfl : o' = oj := Option.some.inj (ho'.symm.trans hj)
        exact absurd hon (hno e he hb')
      · obtain ⟨o', ho', e, he, hb', hon⟩ := Region.waitsFor_spec h1
        obtain rfl : o' = o := Option.some.inj (ho'.symm.trans ho)
        have := hdep e he hb'
        rw [hon] at this
        rw [lst_head (List.getElem?_eq_some_iff.1 this).1] at hl
        simp [this] at hl
      · exact h1
    · rw [lst_set (by omega), put_putS al s aq (fun x hx d hd e => (Oper.apart_spec (hfar x hx)).2.1 d e hd), hp]
      refine ih (h.set i true) s a1 W (by simpa using hn) hs (count_set hi hc) (by rw [← hp, ← hsz]; unfold Act.put; split <;> simp) hsa (fun j oj hj hoj hff => ?_) (fun U hU => ?_) hL
      · by_cases e : i = j
        · subst e; rw [List.getElem?_set_self (by omega)]
        · rw [List.getElem?_set_ne e]; exact hfl j oj hj hoj hff
      · obtain ⟨_, _, _, h3⟩ := V1 U hU
        rwa [set_app (by omega)] at h3

theorem mix_head (M : MixOk md ops fl n m) (htr : treeB md ops (ops.size - (n + m)) tr (List.replicate (n + m) true ++ List.replicate (ops.size - (n + m)) false).toArray = true)
    (hal : al.length = m) (hao : ∀ k, k < m → al[k]? = ops[n + k]?) (hP : ∀ c a w, ¬ Q (.panic c) a w) (N : Nat) (hN : ∀ i o, i < n → ops[i]? = some o → ∀ d, o.dst = some d → d < N)
    (hzl : zs.length = m) (hz0 : ∀ y : Array Value, y ∈ zs → 0 < y.toList.length) (hz : ∀ (k : Nat) (o : Oper) (t : TypeId), al[k]? = some o → o.op = .alloc t → ∃ z, zs[k]? = some z ∧ ZeroIs P t z)
    (hT : ∀ s W, s.length = m → (∀ k, k < m → ∃ b, s[k]? = some (some b)) → Laid w zs s W → wpTr P ops Q (fun W => fl = true → Below w.heap.size w W) tr (putS al s af) W) :
    ∀ (f : Nat) (h : List Bool) (s : List (Option Nat)) (aq : Act) (W : World), h.length = n → s.length = m → h.count false + s.count none = f → aq.tmps.size = N →
      (∀ k j, k < n → h[k]? = some true → Region.waitsFor md ops k j = true → h[j]? = some true) →
      (∀ U, Below w.heap.size w U → wpAnyQ P md ops (Upon U) (fun a' => a' = af) (h.count false) (h ++ List.replicate (ops.size - n) true).toArray aq) → Laid w zs s W →
      wpAny P md ops Q (f + (ops.size - (n + m))) (Lst h s (ops.size - (n + m))) (putS al s aq) W := by
  intro f
  induction f with
  | zero =>
    intro h s aq W hn hs hc hsz hcl V hL
    have := mix_late M htr hal hao hP N hN hT (h.count false) h s aq W hn hs rfl hsz (fun k hk => ?_) (fun i o hi _ _ => ?_) V hL
    · rw [show h.count false = 0 by omega] at this
      exact wpAny_of_held _ _ _ _ this
    · obtain ⟨x, hx⟩ : ∃ x, s[k]? = some x := ⟨_, List.getElem?_eq_getElem (by omega)⟩
      cases x with
      | some b => exact ⟨b, hx⟩
      | none => exact absurd (List.mem_of_getElem? hx) (List.count_eq_zero.1 (by omega))
    · obtain ⟨x, hx⟩ : ∃ x, h[i]? = some x := ⟨_, List.getElem?_eq_getElem (by omega)⟩
      cases x with
      | true => exact hx
      | false => exact absurd (List.mem_of_getElem? hx) (List.count_eq_zero.1 (by omega))
  | succ f ih =>
    intro h s aq W hn hs hc hsz hcl V hL
    by_cases hall : (∀ i o, i < n → ops[i]? = some o → (fl && floatOp o) = false → h[i]? = some true) ∧ (∀ k, k < m → ∃ b, s[k]? = some (some b))
    · have h0 : s.count none = 0 := List.count_eq_zero.2 fun hm => by
        obtain ⟨k, hk⟩ := List.getElem?_of_mem hm
        obtain ⟨b, hb⟩ := hall.2 k (by have := (List.getElem?_eq_some_iff.1 hk).1; omega)
        rw [hk] at hb
        cases hb
      have := mix_late M htr hal hao hP N hN hT (h.count false) h s aq W hn hs rfl hsz hall.2 hall.1 V hL
      rw [show h.count false = f + 1 by omega] at this
      exact wpAny_of_held _ _ _ _ this
    · rw [show f + 1 + (ops.size - (n + m)) = (f + (ops.size - (n + m))) + 1 by omega]
      refine ⟨fun hr => ?_, fun i hi => ?_⟩
      · exfalso
        rcases Nat.eq_zero_or_pos (h.count false) with hz | hz
        · have hs0 : 0 < s.count none := by omega
          obtain ⟨k, hk⟩ := List.getElem?_of_mem (List.count_pos_iff.1 hs0)
          have hkm : k < m := by have := (List.getElem?_eq_some_iff.1 hk).1; omega
          obtain ⟨o, ho, hao'⟩ := M.alloc k hkm
          simp only [allocOp, Bool.and_eq_true] at hao'
          have : n + k ∈ Region.ready md ops (Lst h s (ops.size - (n + m))) := mem_ready.2 ⟨by rw [← hn, lst_mid hk]; rfl, o, ho, fun e he hb => by
            have := Array.all_eq_true'.1 hao'.2 e he
            rw [hb] at this
            cases this⟩
          rw [hr] at this
          cases this
        · obtain ⟨i, hi, hb⟩ := first_false h hz
          have hin : i < n := by rw [← hn]; exact (List.getElem?_eq_some_iff.1 hi).1
          obtain ⟨o, ho⟩ : ∃ o, ops[i]? = some o := ⟨_, Array.getElem?_eq_getElem (by have := M.size; omega)⟩
          have : i ∈ Region.ready md ops (Lst h s (ops.size - (n + m))) := mem_ready.2 ⟨by rw [lst_head (by omega)]; simp [hi], o, ho, fun e he hb' => by
            have := hb _ (M.head i o hin ho e he hb')
            rw [lst_head (List.getElem?_eq_some_iff.1 this).1]; simp [this]⟩
          rw [hr] at this
          cases this
      · obtain ⟨hun, o, ho, hdep⟩ := mem_ready.1 hi
        have hisz : i < ops.size := (Array.getElem?_eq_some_iff.1 ho).1
        have hsel := Region.noSelect_spec M.sel
        rcases (show i < n ∨ (n ≤ i ∧ i < n + m) ∨ n + m ≤ i by omega) with hin | ⟨hin, him⟩ | him
        · -- the head
          have hif : h[i]? = some false := by
            rw [lst_head (by omega)] at hun
            obtain ⟨x, hx⟩ : ∃ x, h[i]? = some x := ⟨_, List.getElem?_eq_getElem (by omega)⟩
            rw [List.getD_eq_getElem?_getD, hx] at hun
            rw [hx, ← hun]; rfl
          have hd : ∀ e ∈ o.after, Region.binds md e = true → h[e.on]? = some true := fun e he hb => by
            have h1 := M.head i o hin ho e he hb
            have h2 := hdep e he hb
            rw [lst_head (by omega)] at h2
            obtain ⟨x, hx⟩ : ∃ x, h[e.on]? = some x := ⟨_, List.getElem?_eq_getElem (by omega)⟩
            rw [List.getD_eq_getElem?_getD, hx] at h2
            rw [hx, ← h2]; rfl
          have hc1 : ∃ c, h.count false = c + 1 := ⟨h.count false - 1, by have := List.count_pos_iff.2 (List.mem_of_getElem? hif); omega⟩
          obtain ⟨c, hc1⟩ := hc1
          have hrV : i ∈ Region.ready md ops (h ++ List.replicate (ops.size - n) true).toArray := mem_ready.2 ⟨by rw [getD_app (by omega)]; simp [hif], o, ho, fun e he hb => by
            have := hd e he hb
            rw [getD_app (List.getElem?_eq_some_iff.1 this).1]; simp [this]⟩
          rw [hc1] at V
          obtain ⟨a1, V1⟩ := anyQ_unif hrV ho (fun d hd j oj hj hne hl => by
            by_cases hjn : j < n
            · exact M.dst i j o oj hin hjn hne ho hj d hd
            · have hjs := (Array.getElem?_eq_some_iff.1 hj).1
              rw [getD_tail (by omega) (by omega)] at hl
              cases hl) V
          obtain ⟨v, hy, hp, _⟩ := V1 W hL.1
          have hfar : farFrom ops o al := fun x hx => by
            obtain ⟨k, hk⟩ := List.getElem?_of_mem hx
            have hkm : k < m := by have := (List.getElem?_eq_some_iff.1 hk).1; omega
            exact M.apart k i x o hkm (by omega) (by omega) (by rw [← hao k hkm]; exact hk) ho
          have hy2 : YieldsIn P ops (Upon W) o v (putS al s aq) := hy.of_same (exec_putS (hsel i o · · ho) al s aq hfar).1 (exec_putS (hsel i o · · ho) al s aq hfar).2
          refine wpOp_of_qOp (C := Upon W) (Upon.refl W) (fun a' w' hw' (ha' : a' = putS al s a1) => ?_) (hy2.qOp ho (by rw [put_putS al s aq (fun x hx d hd e => (Oper.apart_spec (hfar x hx)).2.1 d e hd), hp]))
          subst ha'
          rw [lst_set (by omega)]
          refine ih (h.set i true) s a1 w' (by simpa using hn) hs (by rw [count_set hif hc1]; omega) (by rw [← hp, ← hsz]; unfold Act.put; split <;> simp) (closed_set M hn hin (fun j hj => ?_) hcl) (fun U hU => ?_) (hL.on hz0 hw'.below)
          · obtain ⟨o', ho', e, he, hb', hon⟩ := Region.waitsFor_spec hj
            obtain rfl : o' = o := Option.some.inj (ho'.symm.trans ho)
            rw [← hon]; exact hd e he hb'
          · obtain ⟨_, _, _, h3⟩ := V1 U hU
            rw [count_set hif hc1]
            rwa [set_app (by omega)] at h3
        · -- an allocation
          obtain ⟨k, rfl⟩ : ∃ k, i = n + k := ⟨i - n, by omega⟩
          have hkm : k < m := by omega
          have hsk : s[k]? = some none := by
            obtain ⟨x, hx⟩ : ∃ x, s[k]? = some x := ⟨_, List.getElem?_eq_getElem (by omega)⟩
            rw [← hn, lst_mid hx] at hun
            cases x with
            | none => exact hx
            | some b => cases hun
          obtain ⟨o', ho', hao'⟩ := M.alloc k hkm
          obtain rfl : o' = o := Option.some.inj (ho'.symm.trans ho)
          simp only [allocOp, Bool.and_eq_true] at hao'
          obtain ⟨⟨⟨hg, hds⟩, hop⟩, _⟩ := hao'
          have hak : al[k]? = some o' := by rw [hao k hkm]; exact ho
          obtain ⟨t, hot⟩ : ∃ t, o'.op = .alloc t := by
            cases hq : o'.op <;> rw [hq] at hop <;> first | (cases hop; done) | exact ⟨_, rfl⟩
          obtain ⟨z, hzk, hzz⟩ := hz k o' t hak hot
          have hzt := hzz
          obtain ⟨inf, hinf, hzero⟩ := hzz
          have hr : (Instr.alloc t true (.tuple #[])).run P W = .ok (.pointer (some ⟨W.heap.size, 0, none⟩)) (W.alloc (.cells z t)) := by
            simp [Instr.alloc, zeroValue, typeInfo, hinf, hzero, newVar, go_sem]
          have hgoal : wpAny P md ops Q (f + (ops.size - (n + m))) ((Lst h s (ops.size - (n + m))).setIfInBounds (n + k) true) ((putS al s aq).put o'.dst (.pointer (some ⟨W.heap.size, 0, none⟩))) (W.alloc (.cells z t)) := by
            rw [putS_set al s aq hak hsk (fun j x hj hne d hd => by
              have hjm : j < m := by have := (List.getElem?_eq_some_iff.1 hj).1; omega
              exact (Oper.apart_spec (M.apart k (n + j) o' x hkm (by omega) (by omega) ho (by rw [← hao j hjm]; exact hj))).2.1 d hd)]
            rw [← hn, lst_set2 (by omega), hn]
            refine ih h (s.set k (some W.heap.size)) aq _ hn (by simpa using hs) ?_ hsz hcl V (hL.more hz0 (by omega) hzk hsk)
            have hlt := (List.getElem?_eq_some_iff.1 hsk)
            rw [List.count_set hlt.1, hlt.2]
            have := List.count_pos_iff.2 (List.mem_of_getElem? hsk)
            simp
            omega
          unfold wpOp
          simp only [ho]
          have hw : Region.wanted o' (yielded ops (putS al s aq).tmps) = true := by
            unfold Region.wanted
            cases hgg : o'.guard with
            | none => rfl
            | some g => rw [hgg] at hg; cases hg
          rw [if_pos hw]
          refine .inl ?_
          unfold Oper.wp execOp
          simp only [hot, Sem.run_bind, hr, Result.andThen_ok, Sem.run_pure]
          exact hgoal
        · -- the tail
          exfalso
          have key : ∃ j, j < n + m ∧ (Lst h s (ops.size - (n + m))).getD j true = false ∧ ¬ (∃ o, ops[j]? = some o ∧ j < n ∧ fl = true ∧ floatOp o = true) := by
            rcases Classical.not_and_iff_not_or_not.1 hall with h1 | h1
            · obtain ⟨j, h1⟩ := Classical.not_forall.1 h1
              obtain ⟨oj, h1⟩ := Classical.not_forall.1 h1
              simp only [Classical.not_imp] at h1
              obtain ⟨hj, hoj, hff, hne⟩ := h1
              refine ⟨j, by omega, ?_, ?_⟩
              · rw [lst_head (by omega)]
                obtain ⟨x, hx⟩ : ∃ x, h[j]? = some x := ⟨_, List.getElem?_eq_getElem (by omega)⟩
                cases x with
                | true => exact absurd hx hne
                | false => simp [hx]
              · rintro ⟨o2, ho2, _, hf1, hf2⟩
                obtain rfl : o2 = oj := Option.some.inj (ho2.symm.trans hoj)
                rw [hf1, hf2] at hff
                cases hff
            · obtain ⟨k, h1⟩ := Classical.not_forall.1 h1
              simp only [Classical.not_imp] at h1
              obtain ⟨hk, hne⟩ := h1
              refine ⟨n + k, by omega, ?_, ?_⟩
              · obtain ⟨x, hx⟩ : ∃ x, s[k]? = some x := ⟨_, List.getElem?_eq_getElem (by omega)⟩
                cases x with
                | none => rw [← hn, lst_mid hx]; rfl
                | some b => exact absurd ⟨b, hx⟩ hne
              · rintro ⟨_, _, hlt, _⟩
                omega
          obtain ⟨j, hj, hjl, hjf⟩ := key
          have hdone : ∀ k, (Lst h s (ops.size - (n + m))).getD k false = true → ∀ q, Region.waitsFor md ops k q = true → (Lst h s (ops.size - (n + m))).getD q false = true := fun k hk q hkq => by
            obtain ⟨ok, hok, e, he, hb, hon⟩ := Region.waitsFor_spec hkq
            have hks := (Array.getElem?_eq_some_iff.1 hok).1
            rcases (show k < n ∨ (n ≤ k ∧ k < n + m) ∨ n + m ≤ k by omega) with hkn | ⟨hkn, hkm⟩ | hkm
            · have h3 : h[k]? = some true := by
                rw [lst_head (by omega)] at hk
                obtain ⟨x, hx⟩ : ∃ x, h[k]? = some x := ⟨_, List.getElem?_eq_getElem (by omega)⟩
                rw [List.getD_eq_getElem?_getD, hx] at hk
                rw [hx, ← hk]; rfl
              have h4 := hcl k q hkn h3 hkq
              rw [lst_head (List.getElem?_eq_some_iff.1 h4).1]
              simp [h4]
            · obtain ⟨o2, ho2, hao2⟩ := M.alloc (k - n) (by omega)
              rw [show n + (k - n) = k by omega] at ho2
              obtain rfl : ok = o2 := Option.some.inj (hok.symm.trans ho2)
              simp only [allocOp, Bool.and_eq_true] at hao2
              have := Array.all_eq_true'.1 hao2.2 e he
              rw [hb] at this
              cases this
            · rw [lst_late (by omega) (by omega)] at hk
              cases hk
          have hdeep : ∀ d k, (Lst h s (ops.size - (n + m))).getD k false = true → waitsD md ops d k j = true → (Lst h s (ops.size - (n + m))).getD j false = true := by
            intro d
            induction d with
            | zero => intro k hk hw; exact hdone k hk j hw
            | succ d ihd =>
              intro k hk hw
              unfold waitsD at hw
              rw [Bool.or_eq_true] at hw
              rcases hw with hw | hw
              · exact hdone k hk j hw
              · obtain ⟨q, _, hq⟩ := List.any_eq_true.1 hw
                rw [Bool.and_eq_true] at hq
                exact ihd q (hdone k hk q hq.1) hq.2
          have hfirst : ∀ q, Region.waitsFor md ops i q = true → (Lst h s (ops.size - (n + m))).getD q false = true := fun q hq => by
            obtain ⟨o', ho', e, he, hb, hon⟩ := Region.waitsFor_spec hq
            obtain rfl : o' = o := Option.some.inj (ho'.symm.trans ho)
            rw [← hon]
            exact hdep e he hb
          have hjd : (Lst h s (ops.size - (n + m))).getD j false = true := by
            rcases M.late i j him hisz hj with h1 | h1
            · exact absurd h1 hjf
            · unfold waitsD at h1
              rw [Bool.or_eq_true] at h1
              rcases h1 with h1 | h1
              · exact hfirst j h1
              · obtain ⟨q, _, hq⟩ := List.any_eq_true.1 h1
                rw [Bool.and_eq_true] at hq
                exact hdeep 7 q (hfirst q hq.1) hq.2
          rcases Nat.lt_or_ge j (Lst h s (ops.size - (n + m))).size with h' | h'
          · simp [h'] at hjd hjl; rw [hjd] at hjl; cases hjl
          · simp [Array.getElem?_eq_none h'] at hjl

end

/-- **The region's law.** n: the reads and calls; zs: the zero values of the allocations behind them; af: the frame behind the head. -/
theorem wp_region_mix {id : Nat} {Q : Exit → Act → World → Prop} {a : Act} {w : World} {l : List Oper} (fl : Bool) (n : Nat) (zs : List (Array Value)) (af : Act) (hm : P.follows .mixedOrders = true)
    (hB : mixB .any l.toArray fl n zs.length = true) (hN : (l.take n).all (fun o => match o.dst with | some d => decide (d < a.tmps.size) | none => true) = true) (hz0 : zs.all (fun y => decide (0 < y.toList.length)) = true)
    (hz : ∀ (k : Nat) (o : Oper) (t : TypeId), ((l.drop n).take zs.length)[k]? = some o → o.op = .alloc t → ∃ z, zs[k]? = some z ∧ ZeroIs P t z)
    (h1 : ∀ U, Below w.heap.size w U → wpQuiet P l.toArray (Upon U) (fun a' => a' = af) (l.take n) a)
    (h2 : ∀ s W, s.length = zs.length → (∀ k, k < zs.length → ∃ b, s[k]? = some (some b)) → Laid w zs s W →
      wpTr P l.toArray (NoPanic Q) (fun W => fl = true → Below w.heap.size w W) (tailT (l.toArray.size - (n + zs.length)) (n + zs.length)) (putS ((l.drop n).take zs.length) s af) W) : (Code.region id l.toArray true).wp P Q a w := by
  obtain ⟨M, hlex, htr⟩ := mixOk_of hB
  have hsz : n + zs.length ≤ l.length := by simpa using M.size
  have htn : (l.take n).length = n := by simp; omega
  refine wp_region_noPanic (wp_region_any hm ?_)
  have hb : Below w.heap.size w { w with drawn := w.drawn + 1 } := ⟨rfl, rfl, rfl, Nat.le_refl _, fun _ _ => rfl⟩
  have hV : ∀ U, Below w.heap.size w U → wpAnyQ P .any l.toArray (Upon U) (fun a' => a' = af) ((List.replicate n false).count false) (List.replicate n false ++ List.replicate (l.toArray.size - n) true).toArray a := fun U hU => by
    have := head_lex (C := Upon U) (md := .any) M.sel (l.take n) 0 _ a (fun j hj => by
      have hj' : j < n := by rw [htn] at hj; exact hj
      simp [hj']) (by rw [htn]; exact hlex) (h1 U hU)
    rw [htn] at this
    simpa using this
  have hput : ∀ (al : List Oper) (k : Nat), putS al (List.replicate k none) a = a := by
    intro al
    induction al with
    | nil => intro k; cases k <;> rfl
    | cons x al ih =>
      intro k
      cases k with
      | zero => rfl
      | succ k => exact ih k
  have := mix_head (md := .any) (w := w) (Q := NoPanic Q) M htr (al := (l.drop n).take zs.length) (by simp; omega) (fun k hk => by simp [hk]) (fun c a w h => h) a.tmps.size
    (fun i o hi ho d hd => by
      have h1 := List.all_eq_true.1 hN o (List.mem_of_getElem? (i := i) (by simpa [hi] using ho))
      rw [hd] at h1
      simpa using h1) rfl
    (fun y hy => by simpa using List.all_eq_true.1 hz0 y hy) hz h2 (n + zs.length) (List.replicate n false) (List.replicate zs.length none) a { w with drawn := w.drawn + 1 } (by simp) (by simp) (by simp) rfl
    (fun k j hk h1 => by simp [hk] at h1) hV ⟨hb, fun k b z hk => by simp [List.getElem?_replicate] at hk, fun j k b hj => by simp [List.getElem?_replicate] at hj⟩
  rw [hput] at this
  have e1 : Lst (List.replicate n false) (List.replicate zs.length none) (l.toArray.size - (n + zs.length)) = Array.replicate l.toArray.size false := by
    unfold Lst
    rw [List.map_replicate, ← List.append_assoc]
    simp only [Option.isSome_none, List.replicate_append_replicate, List.toArray_replicate]
    congr 1
    simp; omega
  rw [e1] at this
  rwa [show n + zs.length + (l.toArray.size - (n + zs.length)) = l.toArray.size by simp; omega] at this

theorem wpList_assignL {K : Exit → Act → World → Prop} {rest : List Oper} {a : Act} {W : World} {dst : Option Tmp} {ty : TypeId} {x : Operand} {pos : String} {after : Array Edge} (H : wpList P ops K rest (a.put dst (a.eval x)) W) :
    wpList P ops K ({ dst := dst, op := .assign x, type := ty, pos := pos, after := after, guard := none } :: rest) a W := by
  refine wpList_plain rfl fun N hN => ?_
  unfold Oper.wp execOp
  simp only [Sem.run_pure]
  exact hN _ _ H

/-- None new. -/
theorem wp_region_mix0 {fl : Bool} {id : Nat} {Q : Exit → Act → World → Prop} {a : Act} {w : World} {l : List Oper} (n : Nat) (af : Act) (hm : P.follows .mixedOrders = true) (hB : mixB .any l.toArray fl n 0 = true)
    (hN : (l.take n).all (fun o => match o.dst with | some d => decide (d < a.tmps.size) | none => true) = true)
    (h1 : ∀ U, Below w.heap.size w U → wpQuiet P l.toArray (fun W => ∃ p : Regrown, W = grow (redrawn U p.d) p.os) (fun a' => a' = af) (l.take n) a)
    (h2 : ∀ V, Below w.heap.size w V → wpTr P l.toArray (NoPanic Q) (fun W => fl = true → Below w.heap.size w W) (tailT (l.toArray.size - n) n) af V) : (Code.region id l.toArray true).wp P Q a w := by
  refine wp_region_mix fl n [] af hm hB hN rfl (fun k o t' hk ho => by simp at hk) h1 (fun s W hs hsa hL => ?_)
  have h3 := h2 W hL.1
  have e1 : ∀ s : List (Option Nat), putS [] s af = af := fun s => by cases s <;> rfl
  simp only [List.length_nil, List.take_zero, Nat.add_zero, e1]
  exact h3

/-- 1 new. -/
theorem wp_region_mix1 {fl : Bool} {id : Nat} {Q : Exit → Act → World → Prop} {a : Act} {w : World} {l tl : List Oper} (n : Nat) (af : Act) {d1 : Nat} {t1 y1 : TypeId} {p1 : String} {f1 : Array Edge} {z1 : Array Value} (hm : P.follows .mixedOrders = true)
    (hz1 : ZeroIs P t1 z1) (h01 : 0 < z1.toList.length)
    (hl : l.drop n = { dst := some d1, op := .alloc t1, type := y1, pos := p1, after := f1, guard := none } :: tl) (hB : mixB .any l.toArray fl n 1 = true)
    (hN : (l.take n).all (fun o => match o.dst with | some d => decide (d < a.tmps.size) | none => true) = true)
    (h1 : ∀ U, Below w.heap.size w U → wpQuiet P l.toArray (fun W => ∃ p : Regrown, W = grow (redrawn U p.d) p.os) (fun a' => a' = af) (l.take n) a)
    (h2 : ∀ b1 V, w.heap.size ≤ b1 → Below w.heap.size w V → EBox V b1 z1.toList →
      wpTr P l.toArray (NoPanic Q) (fun W => fl = true → Below w.heap.size w W) (tailT (l.toArray.size - (n + 1)) (n + 1)) (af.put (some d1) (.pointer (some ⟨b1, 0, none⟩))) V) : (Code.region id l.toArray true).wp P Q a w := by
  refine wp_region_mix fl n [z1] af hm hB hN (by simp; exact h01) (fun k o t' hk ho => ?_) h1 (fun s W hs hsa hL => ?_)
  · rw [hl] at hk
    match k, hk with
    | 0, hk =>
      simp at hk
      subst hk
      injection ho with ho
      subst ho
      exact ⟨z1, rfl, hz1⟩
    | k + 1, hk => simp at hk
  · obtain ⟨c1, hc1⟩ := hsa 0 (by simp)
    obtain ⟨x1, rfl⟩ : ∃ x1, s = [x1] := by
      match s, hs with
      | [x1], _ => exact ⟨x1, rfl⟩
    simp only [List.getElem?_cons_zero, List.getElem?_cons_succ, Option.some.injEq] at hc1
    subst hc1
    have e1 := hL.2.1 0 c1 z1 rfl rfl
    have h3 := h2 c1 W e1.1 hL.1 e1.2
    rw [hl]
    exact h3

/-- 2 new. -/
theorem wp_region_mix2 {fl : Bool} {id : Nat} {Q : Exit → Act → World → Prop} {a : Act} {w : World} {l tl : List Oper} (n : Nat) (af : Act) {d1 d2 : Nat} {t1 t2 y1 y2 : TypeId} {p1 p2 : String} {f1 f2 : Array Edge} {z1 z2 : Array Value} (hm : P.follows .mixedOrders = true)
    (hz1 : ZeroIs P t1 z1) (hz2 : ZeroIs P t2 z2) (h01 : 0 < z1.toList.length) (h02 : 0 < z2.toList.length)
    (hl : l.drop n = { dst := some d1, op := .alloc t1, type := y1, pos := p1, after := f1, guard := none } :: { dst := some d2, op := .alloc t2, type := y2, pos := p2, after := f2, guard := none } :: tl) (hB : mixB .any l.toArray fl n 2 = true)
    (hN : (l.take n).all (fun o => match o.dst with | some d => decide (d < a.tmps.size) | none => true) = true)
    (h1 : ∀ U, Below w.heap.size w U → wpQuiet P l.toArray (fun W => ∃ p : Regrown, W = grow (redrawn U p.d) p.os) (fun a' => a' = af) (l.take n) a)
    (h2 : ∀ b1 b2 V, (b1 ≠ b2) → w.heap.size ≤ b1 → w.heap.size ≤ b2 → Below w.heap.size w V → EBox V b1 z1.toList → EBox V b2 z2.toList →
      wpTr P l.toArray (NoPanic Q) (fun W => fl = true → Below w.heap.size w W) (tailT (l.toArray.size - (n + 2)) (n + 2)) ((af.put (some d1) (.pointer (some ⟨b1, 0, none⟩))).put (some d2) (.pointer (some ⟨b2, 0, none⟩))) V) : (Code.region id l.toArray true).wp P Q a w := by
  refine wp_region_mix fl n [z1, z2] af hm hB hN (by simp; exact ⟨h01, h02⟩) (fun k o t' hk ho => ?_) h1 (fun s W hs hsa hL => ?_)
  · rw [hl] at hk
    match k, hk with
    | 0, hk =>
      simp at hk
      subst hk
      injection ho with ho
      subst ho
      exact ⟨z1, rfl, hz1⟩
    | 1, hk =>
      simp at hk
      subst hk
      injection ho with ho
      subst ho
      exact ⟨z2, rfl, hz2⟩
    | k + 2, hk => simp at hk
  · obtain ⟨c1, hc1⟩ := hsa 0 (by simp)
    obtain ⟨c2, hc2⟩ := hsa 1 (by simp)
    obtain ⟨x1, x2, rfl⟩ : ∃ x1 x2, s = [x1, x2] := by
      match s, hs with
      | [x1, x2], _ => exact ⟨x1, x2, rfl⟩
    simp only [List.getElem?_cons_zero, List.getElem?_cons_succ, Option.some.injEq] at hc1 hc2
    subst hc1 hc2
    have e1 := hL.2.1 0 c1 z1 rfl rfl
    have e2 := hL.2.1 1 c2 z2 rfl rfl
    have h3 := h2 c1 c2 W (fun q => by have := hL.2.2 0 1 c1 rfl (by rw [q]; rfl); omega) e1.1 e2.1 hL.1 e1.2 e2.2
    rw [hl]
    exact h3

/-- 3 new. -/
theorem wp_region_mix3 {fl : Bool} {id : Nat} {Q : Exit → Act → World → Prop} {a : Act} {w : World} {l tl : List Oper} (n : Nat) (af : Act) {d1 d2 d3 : Nat} {t1 t2 t3 y1 y2 y3 : TypeId} {p1 p2 p3 : String} {f1 f2 f3 : Array Edge} {z1 z2 z3 : Array Value} (hm : P.follows .mixedOrders = true)
    (hz1 : ZeroIs P t1 z1) (hz2 : ZeroIs P t2 z2) (hz3 : ZeroIs P t3 z3) (h01 : 0 < z1.toList.length) (h02 : 0 < z2.toList.length) (h03 : 0 < z3.toList.length)
    (hl : l.drop n = { dst := some d1, op := .alloc t1, type := y1, pos := p1, after := f1, guard := none } :: { dst := some d2, op := .alloc t2, type := y2, pos := p2, after := f2, guard := none } :: { dst := some d3, op := .alloc t3, type := y3, pos := p3, after := f3, guard := none } :: tl) (hB : mixB .any l.toArray fl n 3 = true)
    (hN : (l.take n).all (fun o => match o.dst with | some d => decide (d < a.tmps.size) | none => true) = true)
    (h1 : ∀ U, Below w.heap.size w U → wpQuiet P l.toArray (fun W => ∃ p : Regrown, W = grow (redrawn U p.d) p.os) (fun a' => a' = af) (l.take n) a)
    (h2 : ∀ b1 b2 b3 V, (b1 ≠ b2 ∧ b1 ≠ b3 ∧ b2 ≠ b3) → w.heap.size ≤ b1 → w.heap.size ≤ b2 → w.heap.size ≤ b3 → Below w.heap.size w V → EBox V b1 z1.toList → EBox V b2 z2.toList → EBox V b3 z3.toList →
      wpTr P l.toArray (NoPanic Q) (fun W => fl = true → Below w.heap.size w W) (tailT (l.toArray.size - (n + 3)) (n + 3)) (((af.put (some d1) (.pointer (some ⟨b1, 0, none⟩))).put (some d2) (.pointer (some ⟨b2, 0, none⟩))).put (some d3) (.pointer (some ⟨b3, 0, none⟩))) V) : (Code.region id l.toArray true).wp P Q a w := by
  refine wp_region_mix fl n [z1, z2, z3] af hm hB hN (by simp; exact ⟨h01, h02, h03⟩) (fun k o t' hk ho => ?_) h1 (fun s W hs hsa hL => ?_)
  · rw [hl] at hk
    match k, hk with
    | 0, hk =>
      simp at hk
      subst hk
      injection ho with ho
      subst ho
      exact ⟨z1, rfl, hz1⟩
    | 1, hk =>
      simp at hk
      subst hk
      injection ho with ho
      subst ho
      exact ⟨z2, rfl, hz2⟩
    | 2, hk =>
      simp at hk
      subst hk
      injection ho with ho
      subst ho
      exact ⟨z3, rfl, hz3⟩
    | k + 3, hk => simp at hk
  · obtain ⟨c1, hc1⟩ := hsa 0 (by simp)
    obtain ⟨c2, hc2⟩ := hsa 1 (by simp)
    obtain ⟨c3, hc3⟩ := hsa 2 (by simp)
    obtain ⟨x1, x2, x3, rfl⟩ : ∃ x1 x2 x3, s = [x1, x2, x3] := by
      match s, hs with
      | [x1, x2, x3], _ => exact ⟨x1, x2, x3, rfl⟩
    simp only [List.getElem?_cons_zero, List.getElem?_cons_succ, Option.some.injEq] at hc1 hc2 hc3
    subst hc1 hc2 hc3
    have e1 := hL.2.1 0 c1 z1 rfl rfl
    have e2 := hL.2.1 1 c2 z2 rfl rfl
    have e3 := hL.2.1 2 c3 z3 rfl rfl
    have h3 := h2 c1 c2 c3 W ⟨fun q => by have := hL.2.2 0 1 c1 rfl (by rw [q]; rfl); omega, fun q => by have := hL.2.2 0 2 c1 rfl (by rw [q]; rfl); omega, fun q => by have := hL.2.2 1 2 c2 rfl (by rw [q]; rfl); omega⟩ e1.1 e2.1 e3.1 hL.1 e1.2 e2.2 e3.2
    rw [hl]
    exact h3

end

end Go.Proofs.Ytcnemjkcihlpeaa
