/- Parsing expressions as a function on lists of tokens (with fuel). No function of a program is named here. -/
import Derived.Test.YtjpkcgepdfpbnaaGreatDoorExpr
import Derived.Test.YtjpkcgepdfpbnaaGreatDoorZLMath
import Derived.Test.YtjpkcgepdfpbnaaGreatDoorZ7
import Derived.Test.YtjpkcgepdfpbnaaGreatDoorZ2
namespace Go.Proofs.YtjpkcgepdfpbnaaGreatDoor
open Go.RowKit
set_option linter.unusedVariables false

/-- A place: the tokens from here on, and the line of the first error, or 0. -/
abbrev PS := List Tk × Int

def zTk : Tk := ⟨0, [], 0, 0⟩
def hdT (r : List Tk) : Tk := r.head?.getD zTk
/-- The next token; behind an error none. -/
def pk (s : PS) : Tk := if 0 < s.2 then zTk else hdT s.1
def tx (z : Tk) : ByteArray := strOfNums z.t
def adv (s : PS) : PS := (s.1.tail, s.2)
def fl (s : PS) : PS := if 0 < s.2 then s else (s.1, (hdT s.1).ln)
/-- Is this text next? -/
def acp (t : ByteArray) (s : PS) : Bool := decide (tx (pk s) = t)
def acS (t : ByteArray) (s : PS) : PS := if acp t s = true then adv s else s
def xp (t : ByteArray) (s : PS) : PS := if acp t s = true then adv s else fl s
def nmq (z : Tk) : Bool := z.k == 1 && !kwd (tx z).toList
def nmT (s : PS) : ByteArray := if nmq (pk s) = true then tx (pk s) else ⟨#[]⟩
def nmS (s : PS) : PS := if nmq (pk s) = true then adv s else fl s

/-- The operators of a level, the last one first. -/
def tbl : Nat → List (ByteArray × Int)
  | 0 => [(⟨#[124]⟩, 7)]
  | 1 => [(⟨#[94]⟩, 8)]
  | 2 => [(⟨#[38]⟩, 6)]
  | 3 => [(⟨#[62, 61]⟩, 14), (⟨#[62]⟩, 13), (⟨#[60, 61]⟩, 12), (⟨#[60]⟩, 11), (⟨#[33, 61]⟩, 16), (⟨#[61, 61]⟩, 15)]
  | 4 => [(⟨#[62, 62]⟩, 10), (⟨#[60, 60]⟩, 9)]
  | 5 => [(⟨#[45]⟩, 2), (⟨#[43]⟩, 1)]
  | _ => [(⟨#[37]⟩, 5), (⟨#[47]⟩, 4), (⟨#[42]⟩, 3)]
def look (t : ByteArray) : List (ByteArray × Int) → Option Int
  | [] => none
  | (a, x) :: r => if t = a then some x else look t r
def opv (k : Nat) (t : ByteArray) : Option Int := look t (tbl k)

/-- What is parsed: a level, what follows its operand, a unary expression, a postfix expression, what follows a primary one, a primary one, a call's arguments (of a name), a list of arguments, what follows an argument. -/
inductive NT where
  | ex (k : Nat)
  | lp (k : Nat) (e : Ex)
  | un
  | po
  | pl (e : Ex)
  | pr
  | ca (n : ByteArray)
  | ls
  | li (a : List Ex)

/-- What an operand of a level is. -/
def opd (k : Nat) : NT := if k < 6 then .ex (k + 1) else .un

/-- The parser: none when the fuel is used up. -/
def pe : Nat → NT → PS → Option (Ex × PS)
  | 0, _, _ => none
  | n + 1, .ex k, s => (pe n (opd k) s).bind fun q => pe n (.lp k q.1) q.2
  | n + 1, .lp k e, s =>
    match opv k (tx (pk s)) with
    | none => some (e, s)
    | some op => (pe n (opd k) (adv s)).bind fun q => if k = 3 then some (.mk 6 op ⟨#[]⟩ 0 [e, q.1], q.2) else pe n (.lp k (.mk 6 op ⟨#[]⟩ 0 [e, q.1])) q.2
  | n + 1, .un, s =>
    if acp ⟨#[45]⟩ s = true then (pe n .un (adv s)).bind fun q => some (.mk 5 17 ⟨#[]⟩ 0 [q.1], q.2)
    else if acp ⟨#[33]⟩ s = true then (pe n .un (adv s)).bind fun q => some (.mk 5 18 ⟨#[]⟩ 0 [q.1], q.2)
    else pe n .po s
  | n + 1, .po, s => (pe n .pr s).bind fun q => pe n (.pl q.1) q.2
  | n + 1, .pl e, s =>
    if acp ⟨#[46]⟩ s = true then pe n (.pl (.mk 8 0 (nmT (adv s)) 0 [e])) (nmS (adv s))
    else if acp ⟨#[91]⟩ s = true then (pe n (.ex 0) (adv s)).bind fun q => pe n (.pl (.mk 9 0 ⟨#[]⟩ 0 [e, q.1])) (xp ⟨#[93]⟩ q.2)
    else some (e, s)
  | n + 1, .pr, s =>
    if acp ⟨#[40]⟩ s = true then (pe n (.ex 0) (adv s)).bind fun q => some (q.1, xp ⟨#[41]⟩ q.2)
    else if acp ⟨#[116, 114, 117, 101]⟩ s = true then some (.mk 3 0 ⟨#[]⟩ 1 [], adv s)
    else if acp ⟨#[102, 97, 108, 115, 101]⟩ s = true then some (.mk 3 0 ⟨#[]⟩ 0 [], adv s)
    else if (pk s).k = 2 then some (.mk 2 0 ⟨#[]⟩ (pk s).v [], adv s)
    else if (pk s).k = 3 then some (.mk 1 0 ⟨#[]⟩ (pk s).v [], adv s)
    else if tyw (tx (pk s)).toList = true then pe n (.ca (tx (pk s))) (xp ⟨#[40]⟩ (adv s))
    else if acp ⟨#[40]⟩ (nmS s) = true then pe n (.ca (nmT s)) (adv (nmS s))
    else some (.mk 4 0 (nmT s) 0 [], nmS s)
  | n + 1, .ca t, s => (pe n .ls s).bind fun q => some (.mk 7 0 t 0 q.1.l, q.2)
  | n + 1, .ls, s =>
    if acp ⟨#[41]⟩ s = true then some (.mk 0 0 ⟨#[]⟩ 0 [], adv s)
    else (pe n (.ex 0) s).bind fun q => pe n (.li [q.1]) q.2
  | n + 1, .li a, s =>
    if acp ⟨#[44]⟩ s = true then (pe n (.ex 0) (adv s)).bind fun q => pe n (.li (a ++ [q.1])) q.2
    else some (.mk 0 0 ⟨#[]⟩ 0 a, xp ⟨#[41]⟩ s)

/-! ### good tokens -/

/-- The class of a text by its first byte: 2 number, 1 word, 4 sign. -/
def cls (l : List Int) : Int := if (l.head?).any isDig = true then 2 else if (l.head?).any isWrd = true then 1 else 4

def okT (z : Tk) : Prop := 1 ≤ z.ln ∧ z.t ≠ [] ∧ z.t.length ≤ 100000 ∧ (z.k = 1 ∧ cls z.t = 1 ∨ z.k = 2 ∧ cls z.t = 2 ∨ z.k = 3 ∧ cls z.t = 2 ∨ z.k = 4 ∧ cls z.t = 4) ∧ ∀ y ∈ z.t, (0 : Int) ≤ y ∧ y ≤ 255

/-- Good tokens up to the end's. -/
def Gd : List Tk → Prop
  | [] => False
  | z :: r => (r = [] ∧ z.k = 5 ∧ z.t = [] ∧ 1 ≤ z.ln) ∨ (okT z ∧ Gd r)

theorem gd_cons {z : Tk} {r : List Tk} : Gd (z :: r) ↔ (r = [] ∧ z.k = 5 ∧ z.t = [] ∧ 1 ≤ z.ln) ∨ (okT z ∧ Gd r) := by rw [Gd]

theorem Gd.ne {r : List Tk} (h : Gd r) : r ≠ [] := by rintro rfl; exact h
theorem Gd.ln {r : List Tk} (h : Gd r) : 1 ≤ (hdT r).ln := by
  cases r with
  | nil => exact h.elim
  | cons z r =>
    rw [gd_cons] at h
    rcases h with ⟨_, _, _, h⟩ | ⟨h, _⟩
    · exact h
    · exact h.1
theorem Gd.short {r : List Tk} (h : Gd r) : (hdT r).t.length ≤ 100000 := by
  cases r with
  | nil => exact h.elim
  | cons z r =>
    rw [gd_cons] at h
    rcases h with ⟨_, _, h, _⟩ | ⟨h, _⟩
    · show z.t.length ≤ _
      rw [h]; decide
    · exact h.2.2.1
theorem Gd.tail {r : List Tk} (h : Gd r) (h5 : (hdT r).t ≠ []) : Gd r.tail := by
  cases r with
  | nil => exact h.elim
  | cons z r =>
    rw [gd_cons] at h
    rcases h with ⟨_, _, h, _⟩ | ⟨_, h⟩
    · exact absurd h h5
    · exact h
theorem Gd.tail_k {r : List Tk} (h : Gd r) (h5 : (hdT r).k ≠ 5) : Gd r.tail := by
  cases r with
  | nil => exact h.elim
  | cons z r =>
    rw [gd_cons] at h
    rcases h with ⟨_, h, _, _⟩ | ⟨_, h⟩
    · exact absurd h h5
    · exact h

theorem tx_nil : tx zTk = ⟨#[]⟩ := rfl
theorem tx_ne {z : Tk} {t : ByteArray} (h : tx z = t) (ht : t ≠ ⟨#[]⟩) : z.t ≠ [] := by
  intro e
  apply ht
  rw [← h]
  unfold tx
  rw [e]
  rfl

theorem acp_iff {t : ByteArray} {s : PS} : acp t s = true ↔ tx (pk s) = t := by unfold acp; exact decide_eq_true_iff

/-- A text is next only where there was no error. -/
theorem acp_ok {t : ByteArray} {s : PS} (ht : t ≠ ⟨#[]⟩) (h : acp t s = true) : ¬ 0 < s.2 ∧ tx (hdT s.1) = t := by
  rw [acp_iff] at h
  unfold pk at h
  split at h
  · exact absurd h.symm ht
  · rename_i q
    exact ⟨q, h⟩

theorem acp_gd {t : ByteArray} {s : PS} (ht : t ≠ ⟨#[]⟩) (h : acp t s = true) (g : Gd s.1) : Gd (adv s).1 := g.tail (tx_ne (acp_ok ht h).2 ht)

theorem pk_k {s : PS} {k : Int} (h : (pk s).k = k) (h0 : k ≠ 0) : ¬ 0 < s.2 ∧ (hdT s.1).k = k := by
  unfold pk at h
  split at h
  · exact absurd h.symm h0
  · rename_i q
    exact ⟨q, h⟩

theorem pk_gd {s : PS} {k : Int} (h : (pk s).k = k) (h0 : k ≠ 0) (h5 : k ≠ 5) (g : Gd s.1) : Gd (adv s).1 := g.tail_k (by rw [(pk_k h h0).2]; exact h5)

theorem nmq_k {z : Tk} (h : nmq z = true) : z.k = 1 := by
  unfold nmq at h
  simp only [Bool.and_eq_true, beq_iff_eq] at h
  exact h.1

theorem nmq_gd {s : PS} (h : nmq (pk s) = true) (g : Gd s.1) : Gd (adv s).1 := pk_gd (nmq_k h) (by decide) (by decide) g

theorem fl_gd {s : PS} (g : Gd s.1) : Gd (fl s).1 := by unfold fl; split <;> exact g
theorem nmS_gd {s : PS} (g : Gd s.1) : Gd (nmS s).1 := by
  unfold nmS
  split
  · rename_i h; exact nmq_gd h g
  · exact fl_gd g
theorem xp_gd {t : ByteArray} {s : PS} (ht : t ≠ ⟨#[]⟩) (g : Gd s.1) : Gd (xp t s).1 := by
  unfold xp
  split
  · rename_i h; exact acp_gd ht h g
  · exact fl_gd g

theorem tyw_nil : tyw (⟨#[]⟩ : ByteArray).toList = false := by decide +kernel
theorem pk_tx_gd {s : PS} (h : tx (pk s) ≠ ⟨#[]⟩) (g : Gd s.1) : ¬ 0 < s.2 ∧ Gd (adv s).1 := by
  unfold pk at h
  split at h
  · exact absurd rfl h
  · rename_i q
    exact ⟨q, g.tail (tx_ne rfl h)⟩

theorem opv_nil (k : Nat) : opv k ⟨#[]⟩ = none := by
  unfold opv
  match k with
  | 0 | 1 | 2 | 3 | 4 | 5 => rfl
  | _ + 6 => rfl
theorem opv_ne {k : Nat} {t : ByteArray} {op : Int} (h : opv k t = some op) : t ≠ ⟨#[]⟩ := by rintro rfl; rw [opv_nil] at h; cases h

theorem strOf_len (l : List Int) : (strOfNums l).size = l.length := by
  have := congrArg List.length (strOfNums_data l)
  rw [List.length_map] at this
  rw [← this, Array.length_toList]
  rfl
theorem pk_short {s : PS} (g : Gd s.1) : (tx (pk s)).size ≤ 100000 := by
  unfold tx
  rw [strOf_len]
  unfold pk
  split
  · decide
  · exact g.short

end Go.Proofs.YtjpkcgepdfpbnaaGreatDoor

/- The parser's block: the tokens, the place, the line of an error; what its methods leave alone. No function of a program is named here. -/
namespace Go.Proofs.YtjpkcgepdfpbnaaGreatDoor
open Go.RowKit Go.Sort Go.ChangeShapes Go.WideShapes
set_option linter.unusedVariables false

/-- Of what lay only block b may have changed. -/
structure But (b : Nat) (w w' : World) : Prop where
  os : w'.os = w.os
  tape : w'.tape = w.tape
  output : w'.output = w.output
  size : w.heap.size ≤ w'.heap.size
  block : ∀ k, k < w.heap.size → k ≠ b → w'.heap[k]? = w.heap[k]?

theorem But.refl (b : Nat) (w : World) : But b w w := ⟨rfl, rfl, rfl, Nat.le_refl _, fun _ _ _ => rfl⟩
theorem But.trans {b : Nat} {w w1 w2 : World} (h : But b w w1) (k : But b w1 w2) : But b w w2 :=
  ⟨k.os.trans h.os, k.tape.trans h.tape, k.output.trans h.output, Nat.le_trans h.size k.size, fun i hi hb => (k.block i (Nat.lt_of_lt_of_le hi h.size) hb).trans (h.block i hi hb)⟩
theorem But.of {b : Nat} {w w' : World} (h : Below w.heap.size w w') : But b w w' := ⟨h.os, h.tape, h.output, h.size, fun k hk _ => h.block k hk⟩
theorem But.set {b : Nat} {w w' : World} (h : But b w w') (i : Nat) (v : Value) : But b w (w'.setCell ⟨b, i, none⟩ v) :=
  h.trans ⟨rfl, rfl, rfl, by rw [World.size_setCell]; exact Nat.le_refl _, fun k _ hb => Below.heap_setCell _ _ _ _ hb⟩
theorem But.below {b B : Nat} {w w' : World} (h : But b w w') (hB : B ≤ b) (hb : b ≤ w.heap.size) : Below B w w' := ⟨h.os, h.tape, h.output, h.size, fun k hk => h.block k (by omega) (by omega)⟩
theorem But.alloc {b : Nat} {w w' : World} (h : But b w w') (o : Obj) : But b w (w'.alloc o) := h.trans (But.of ((Below.refl _ _).alloc (Nat.le_refl _) o))
theorem But.on {b : Nat} {w w1 w2 : World} (h : But b w w1) (k : Below w1.heap.size w1 w2) : But b w w2 := h.trans (But.of k)

theorem But.cell {b c i : Nat} {w w' : World} {v : Value} (h : But b w w') (hc : c ≠ b) (k : w.cell? ⟨c, i, none⟩ = some v) : w'.cell? ⟨c, i, none⟩ = some v :=
  (World.cell?_of_block (a := ⟨c, i, none⟩) (h.block c (block_lt_of_cell k) hc)).trans k
theorem But.frozen {b c i j : Nat} {w w' : World} {v : Value} {f : Bool} (h : But b w w') (hc : c ≠ b) (k : w.cell? ⟨c, j, none⟩ = some v) (z : w.frozen? ⟨c, i, none⟩ = f) : w'.frozen? ⟨c, i, none⟩ = f :=
  (World.frozen?_of_block (a := ⟨c, i, none⟩) (h.block c (block_lt_of_cell k) hc)).trans z
theorem But.ebox {b c : Nat} {w w' : World} {vs : List Value} (h : But b w w') (hc : c ≠ b) (hl : c < w.heap.size) (k : EBox w c vs) : EBox w' c vs := k.stay (h.block c hl hc)

/-- Blocks from B on, below E. -/
def iv (B E : Nat) : Nat → Prop := fun k => B ≤ k ∧ k < E

section
variable {b n B E B' E' : Nat} {w w' : World} {A : Option Addr} {l : List Ex}

theorem RdX.but (h : RdX w (iv B E) A n l) (K : But b w w') (hb : b < B ∨ E ≤ b) (hE : E ≤ w.heap.size) : RdX w' (iv B E) A n l :=
  h.keep (fun k hk => K.block k (Nat.lt_of_lt_of_le hk.2 hE) (by have h1 := hk.1; have h2 := hk.2; omega)) (fun _ hk => hk)
theorem RdX.ivOn (h : RdX w (iv B E) A n l) (K : Below w.heap.size w w') (hE : E ≤ w.heap.size) : RdX w' (iv B E) A n l :=
  h.keep (fun k hk => K.block k (Nat.lt_of_lt_of_le hk.2 hE)) (fun _ hk => hk)
theorem RdX.wide (h : RdX w (iv B E) A n l) (h1 : B' ≤ B) (h2 : E ≤ E') : RdX w (iv B' E') A n l :=
  h.keep (fun _ _ => rfl) (fun k hk => ⟨Nat.le_trans h1 hk.1, Nat.lt_of_lt_of_le hk.2 h2⟩)
theorem RdX.ivIn (h : RdX w (iv B E) A n l) (hE : E ≤ w.heap.size) : RdX w (inH w) A n l := h.keep (fun _ _ => rfl) (fun k hk => Nat.lt_of_lt_of_le hk.2 hE)
theorem RdX.inIv (h : RdX w (inH w) A n l) : RdX w (iv 0 w.heap.size) A n l := h.keep (fun _ _ => rfl) (fun k hk => ⟨Nat.zero_le _, hk⟩)
end

theorem But.at_ {b c : Nat} {w w1 w2 : World} (h : But b w w1) (k : But c w1 w2) (hc : w.heap.size ≤ c) : But b w w2 :=
  ⟨k.os.trans h.os, k.tape.trans h.tape, k.output.trans h.output, Nat.le_trans h.size k.size, fun i hi hb => (k.block i (Nat.lt_of_lt_of_le hi h.size) (by omega)).trans (h.block i hi hb)⟩

theorem heap_setCells (b k : Nat) (hk : k ≠ b) : ∀ (vs : List Value) (o : Nat) (w : World), (w.setCells b o vs).heap[k]? = w.heap[k]?
  | [], _, _ => rfl
  | v :: r, o, w => by rw [World.setCells, heap_setCells b k hk r, Below.heap_setCell _ _ _ _ hk]
theorem size_setCells (b : Nat) : ∀ (vs : List Value) (o : Nat) (w : World), (w.setCells b o vs).heap.size = w.heap.size
  | [], _, _ => rfl
  | v :: r, o, w => by rw [World.setCells, size_setCells b r, World.size_setCell]
theorem but_setCells (b : Nat) : ∀ (vs : List Value) (o : Nat) (w : World), But b w (w.setCells b o vs)
  | [], _, w => But.refl b w
  | v :: r, o, w => by rw [World.setCells]; exact ((But.refl b w).set o v).trans (but_setCells b r (o + 1) _)

section
variable {P : Program} {ops : Array Oper} {Q : Exit → Act → World → Prop} {rest : List Oper} {a : Act} {W : World} {b : Nat}

/-- A struct stored whole into its block, as the operation is written out. -/
theorem bsetL {dst : Option Tmp} {ty t : TypeId} {x y : Operand} {pos : String} {after : Array Edge} {us vs : List Value} {k : Nat} (T : RowK P t k) (hu : us.length = k) (hv : vs.length = k) (K : EBox W b us) (hx : a.eval x = .pointer (some ⟨b, 0, none⟩)) (hy : a.eval y = .agg vs.toArray) (h1 : ∀ v ∈ vs, v.oneCell' = true)
    (H : ∀ V, EBox V b vs → But b W V → V.heap.size = W.heap.size → wpList P ops Q rest (a.put dst undef) V) :
    wpList P ops Q ({ dst := dst, op := .store t x y, type := ty, pos := pos, after := after, guard := none } :: rest) a W := by
  have ht : W.there b 0 vs.length := by
    intro j hj
    refine ⟨?_, K.2 _⟩
    have hj' : j < us.length := by omega
    rw [K.1 j _ (List.getElem?_eq_getElem hj')]
    rfl
  refine wpList_store_mid rfl t x y rfl b 0 vs.toArray hx hy (by simpa using ht) (by rw [T.size]; simp [hv]) (by simpa using h1) ?_
  have hr := World.rangeAt_setCells_same W b 0 vs ht
  refine H _ ⟨by simpa using hr, fun i => ?_⟩ (by simpa using but_setCells b vs 0 W) (by simpa using size_setCells b vs 0 W)
  rw [World.frozen?_setCells]; exact K.2 i

/-- .. its cells told by the value. -/
theorem bsetV {dst : Option Tmp} {ty t : TypeId} {x y : Operand} {pos : String} {after : Array Edge} {us : List Value} {cs : Array Value} {k : Nat} (T : RowK P t k) (hu : us.length = k) (hv : cs.size = k) (h1 : cs.all (·.oneCell') = true) (K : EBox W b us) (hx : a.eval x = .pointer (some ⟨b, 0, none⟩)) (hy : a.eval y = .agg cs)
    (H : ∀ V, EBox V b cs.toList → But b W V → V.heap.size = W.heap.size → wpList P ops Q rest (a.put dst undef) V) :
    wpList P ops Q ({ dst := dst, op := .store t x y, type := ty, pos := pos, after := after, guard := none } :: rest) a W :=
  bsetL T hu (by simpa using hv) K hx (by simpa using hy) (fun v hv => by
    obtain ⟨i, hi, rfl⟩ := List.mem_iff_getElem.1 hv
    have := Array.all_eq_true.1 h1 i (by simpa using hi)
    simpa using this) H

/-- A token stored whole into its block. -/
theorem bset4 {dst : Option Tmp} {ty t : TypeId} {x y : Operand} {pos : String} {after : Array Edge} {us : List Value} {k v l : Int} {s : ByteArray} (T : RowK P t 4) (hu : us.length = 4) (K : EBox W b us) (hx : a.eval x = .pointer (some ⟨b, 0, none⟩)) (hy : a.eval y = .agg #[.int .i64 k, .string s, .int .i64 v, .int .i64 l])
    (H : ∀ V, EBox V b [.int .i64 k, .string s, .int .i64 v, .int .i64 l] → But b W V → V.heap.size = W.heap.size → wpList P ops Q rest (a.put dst undef) V) :
    wpList P ops Q ({ dst := dst, op := .store t x y, type := ty, pos := pos, after := after, guard := none } :: rest) a W :=
  bsetL T hu rfl K hx hy (fun v hv => by simp at hv; rcases hv with rfl | rfl | rfl | rfl <;> rfl) H

/-- An expression stored whole into its block. -/
theorem bset5 {dst : Option Tmp} {ty t : TypeId} {x y : Operand} {pos : String} {after : Array Edge} {us : List Value} {k o v : Int} {s : ByteArray} {A : Option Addr} {n c : Nat} (T : RowK P t 5) (hu : us.length = 5) (K : EBox W b us) (hx : a.eval x = .pointer (some ⟨b, 0, none⟩)) (hy : a.eval y = .agg #[.int .i64 k, .int .i64 o, .string s, .int .i64 v, .slice A n c])
    (H : ∀ V, EBox V b [.int .i64 k, .int .i64 o, .string s, .int .i64 v, .slice A n c] → But b W V → V.heap.size = W.heap.size → wpList P ops Q rest (a.put dst undef) V) :
    wpList P ops Q ({ dst := dst, op := .store t x y, type := ty, pos := pos, after := after, guard := none } :: rest) a W :=
  bsetL T hu rfl K hx hy (fun v hv => by simp at hv; rcases hv with rfl | rfl | rfl | rfl | rfl <;> rfl) H
end

/-- The parser in block b: n tokens at A, the place, the line of the error. -/
structure StX (w : World) (b : Nat) (A : Option Addr) (n c at_ : Nat) (toks : List Tk) (wr : Int) : Prop where
  c0 : w.cell? ⟨b, 0, none⟩ = some (.slice A n c)
  c1 : w.cell? ⟨b, 1, none⟩ = some (.int .i64 (at_ : Int))
  c2 : w.cell? ⟨b, 2, none⟩ = some (.int .i64 wr)
  fre : ∀ i, w.frozen? ⟨b, i, none⟩ = false
  tk : RdT w b A n toks
  hn : n ≤ 4611686018427387904

section
variable {w w' : World} {b n c at_ : Nat} {A : Option Addr} {toks : List Tk} {wr : Int}

theorem StX.lt (h : StX w b A n c at_ toks wr) : b < w.heap.size := block_lt_of_cell h.c0
theorem StX.stay (h : StX w b A n c at_ toks wr) (q : w'.heap[b]? = w.heap[b]?) (B : Below b w w') : StX w' b A n c at_ toks wr :=
  ⟨(World.cell?_of_block (a := ⟨b, 0, none⟩) q).trans h.c0, (World.cell?_of_block (a := ⟨b, 1, none⟩) q).trans h.c1, (World.cell?_of_block (a := ⟨b, 2, none⟩) q).trans h.c2, fun i => (World.frozen?_of_block (a := ⟨b, i, none⟩) q).trans (h.fre i), h.tk.below B, h.hn⟩
theorem StX.on (h : StX w b A n c at_ toks wr) (B : Below w.heap.size w w') : StX w' b A n c at_ toks wr := h.stay (B.block b h.lt) (B.mono (Nat.le_of_lt h.lt))
theorem StX.set1 (h : StX w b A n c at_ toks wr) (q : Nat) : StX (w.setCell ⟨b, 1, none⟩ (.int .i64 (q : Int))) b A n c q toks wr :=
  ⟨by rw [World.cell?_setCell_other _ _ _ _ (by intro e; injection e; omega)]; exact h.c0, World.cell?_setCell_same _ _ _ h.c1, by rw [World.cell?_setCell_other _ _ _ _ (by intro e; injection e; omega)]; exact h.c2, fun i => by rw [World.frozen?_setCell]; exact h.fre i, h.tk.below (below_set _ _), h.hn⟩
theorem StX.set2 (h : StX w b A n c at_ toks wr) (q : Int) : StX (w.setCell ⟨b, 2, none⟩ (.int .i64 q)) b A n c at_ toks q :=
  ⟨by rw [World.cell?_setCell_other _ _ _ _ (by intro e; injection e; omega)]; exact h.c0, by rw [World.cell?_setCell_other _ _ _ _ (by intro e; injection e; omega)]; exact h.c1, World.cell?_setCell_same _ _ _ h.c2, fun i => by rw [World.frozen?_setCell]; exact h.fre i, h.tk.below (below_set _ _), h.hn⟩
end

/-- The parser in block b is at place s. -/
def St (w : World) (b : Nat) (s : PS) : Prop := Gd s.1 ∧ ∃ A n c at_ toks, StX w b A n c at_ toks s.2 ∧ s.1 = toks.drop at_

section
variable {w w' : World} {b : Nat} {s : PS}

theorem St.gd (h : St w b s) : Gd s.1 := h.1
theorem St.lt (h : St w b s) : b < w.heap.size := by obtain ⟨_, A, n, c, at_, toks, X, _⟩ := h; exact X.lt
theorem St.on (h : St w b s) (B : Below w.heap.size w w') : St w' b s := by obtain ⟨g, A, n, c, at_, toks, X, e⟩ := h; exact ⟨g, A, n, c, at_, toks, X.on B, e⟩

/-- The next token's place. -/
theorem StX.here {n c at_ : Nat} {A : Option Addr} {toks : List Tk} {wr : Int} (X : StX w b A n c at_ toks wr) (g : Gd (toks.drop at_)) :
    at_ < n ∧ ∃ tb to_, A = some ⟨tb, to_, none⟩ ∧ tb < b ∧ w.rangeAt tb (to_ + at_ * 4) (tokC (hdT (toks.drop at_))) := by
  have hlt : at_ < toks.length := by
    rcases Nat.lt_or_ge at_ toks.length with q | q
    · exact q
    · exact absurd (List.drop_eq_nil_of_le q) g.ne
  rw [X.tk.len] at hlt
  obtain ⟨tb, to_, x, hA, hb, hc, hx⟩ := X.tk.at_ hlt
  refine ⟨hlt, tb, to_, hA, hb, ?_⟩
  have e : hdT (toks.drop at_) = x := by
    unfold hdT
    rw [List.head?_drop, hx.out]
    rfl
  rw [e]
  exact hc

theorem St.advance {n c at_ : Nat} {A : Option Addr} {toks : List Tk} (X : StX w b A n c at_ toks s.2) (e : s.1 = toks.drop at_) (g : Gd (adv s).1) : St (w.setCell ⟨b, 1, none⟩ (.int .i64 ((at_ : Int) + 1))) b (adv s) :=
  ⟨g, A, n, c, at_ + 1, toks, X.set1 (at_ + 1), by unfold adv; rw [e]; exact List.tail_drop⟩
end

end Go.Proofs.YtjpkcgepdfpbnaaGreatDoor

/- The parser's small methods: failed, peek, accept, fail, expect, name. -/
namespace Go.Proofs.YtjpkcgepdfpbnaaGreatDoor
open Go.RowKit Go.Sort Go.ChangeShapes Go.WideShapes
set_option linter.unusedVariables false

theorem rk_tk : RowK Tryz.prog 60 4 := ⟨⟨_, Tryz.underlying60, rfl⟩, by kernel_rfl⟩
theorem rk_ex : RowK Tryz.prog 42 5 := ⟨⟨_, Tryz.underlying42, rfl⟩, by kernel_rfl⟩

abbrev ptr (b : Nat) : Value := .pointer (some ⟨b, 0, none⟩)
/-- A token as a value. -/
abbrev tkV (z : Tk) : Value := .agg #[.int .i64 z.k, .string (tx z), .int .i64 z.v, .int .i64 z.ln]

theorem fld_k (W : World) (k v l : Int) (t : ByteArray) : (Instr.field 60 (.agg #[.int .i64 k, .string t, .int .i64 v, .int .i64 l]) 0).run Tryz.prog W = .ok (.int .i64 k) W := by kernel_rfl
theorem fld_t (W : World) (k v l : Int) (t : ByteArray) : (Instr.field 60 (.agg #[.int .i64 k, .string t, .int .i64 v, .int .i64 l]) 1).run Tryz.prog W = .ok (.string t) W := by kernel_rfl
theorem fld_v (W : World) (k v l : Int) (t : ByteArray) : (Instr.field 60 (.agg #[.int .i64 k, .string t, .int .i64 v, .int .i64 l]) 2).run Tryz.prog W = .ok (.int .i64 v) W := by kernel_rfl
theorem fld_l (W : World) (k v l : Int) (t : ByteArray) : (Instr.field 60 (.agg #[.int .i64 k, .string t, .int .i64 v, .int .i64 l]) 3).run Tryz.prog W = .ok (.int .i64 l) W := by kernel_rfl

theorem norm_end {P : Program} {fn : Func} {R : Ending → World → Prop} {a : Act} {w : World} {v : Value} (hr : (results fn a.tmps).run P w = .ok v w) (hd : a.defers = []) (hR : R (.returned v) w) :
    bodyPost P fn R .normal a w := ⟨hd, v, hr, hR⟩

theorem failed_b (w : World) (b : Nat) (s : PS) (S : St w b s) : Calls Tryz.prog 64 #[ptr b] w fun e w' => e = .returned (.bool (decide (0 < s.2))) ∧ w = w' := by
  obtain ⟨_, A, n, c, at_, toks, X, _⟩ := S
  have c2 := X.c2
  clear X
  go_enter Tryz.func64, Tryz.ntmps64
  go_wp2_with fail
  go_ret
  exact ⟨rfl, rfl⟩

theorem peek_b (w : World) (b : Nat) (s : PS) (S : St w b s) : Calls Tryz.prog 62 #[ptr b] w fun e w' => e = .returned (.agg #[.int .i64 (pk s).k, .string (tx (pk s)), .int .i64 (pk s).v, .int .i64 (pk s).ln]) ∧ Below w.heap.size w w' := by
  have S0 := Lib.hid S
  have hb := S.lt
  obtain ⟨rest, wr⟩ := s
  have B0 := box_below w #[.int .i64 0, .string ⟨#[]⟩, .int .i64 0, .int .i64 0] 60
  by_cases h : 0 < wr
  · have e : pk (rest, wr) = zTk := if_pos h
    have hd : decide (0 < wr) = true := decide_eq_true h
    rw [e]
    clear S e
    have HB := Lib.hid B0
    clear B0
    go_enter Tryz.func62, Tryz.ntmps62
    go_wp2_with (go_at_call 64; (refine (failed_b _ b (rest, wr) (S0.out.on HB.out)).mono ?_); rintro _ _ ⟨rfl, rfl⟩)
    exact bodyPost_ret (v := tkV zTk) (by simp [results, Tryz.results62, go_sem, tkV, zTk, tx, strOfNums]) rfl ⟨rfl, HB.out⟩
  · have e : pk (rest, wr) = hdT rest := if_neg h
    have hd : decide (0 < wr) = false := decide_eq_false h
    rw [e]
    obtain ⟨g, A, n, c, at_, toks, X, hs⟩ := S
    simp only at X hs
    subst hs
    obtain ⟨hlt, tb, to_, rfl, htb, Etk0⟩ := X.here g
    have Etk : w.rangeAt tb (to_ + at_ * 4) [.int .i64 (hdT (toks.drop at_)).k, .string (tx (hdT (toks.drop at_))), .int .i64 (hdT (toks.drop at_)).v, .int .i64 (hdT (toks.drop at_)).ln] := Etk0
    generalize hdT (toks.drop at_) = z at Etk ⊢
    have c0 := cell_below B0 X.c0
    have c1 := cell_below B0 X.c1
    replace Etk := rangeAt_on Etk B0
    have X0 := EBox.made w #[.int .i64 0, .string ⟨#[]⟩, .int .i64 0, .int .i64 0] 60
    have BB := B0
    have HB := Lib.hid B0
    have hn := X.hn
    clear X Etk0 B0 g e
    go_enter Tryz.func62, Tryz.ntmps62
    go_wp2_with (go_at_call 64; (refine (failed_b _ b (List.drop at_ toks, wr) (S0.out.on HB.out)).mono ?_); rintro _ _ ⟨rfl, rfl⟩)
    have k_c0 := cell_regrown c0
    have k_c1 := cell_regrown c1
    refine wp_region_tail (n := 10) (by kernel_rfl) (by kernel_rfl) ?_
    simp only [List.take_succ_cons, List.take_zero, List.drop_succ_cons, List.drop_zero]
    repeat (first | (go_big_quiet_want; refine quiet_eload _ _ rfl rk_tk rfl (fun W hW => rangeAt_on Etk (below_regrown' hW)) rfl ?_; go_simp; go_big_quiet_on) | (go_big_quiet_want; refine quiet_eload _ _ rfl rk_0 rfl (fun W hW => rangeAt_on X0.1 (below_regrown' hW)) rfl ?_; go_simp; go_big_quiet_on) | go_big_quiet_step ((first | fail)) | quiet_step ((first | fail)))
    refine wpQuiet_nil ?_
    intro W hw'
    have B := below_regrown' hw'
    clear hw' k_c0 k_c1
    replace BB := bon BB B
    replace c0 := cell_below B c0
    replace c1 := cell_below B c1
    replace Etk := rangeAt_on Etk B
    replace X0 := EBox.on X0 (Nat.succ_pos _) B
    (with_reducible refine bset4 rk_tk rfl X0 rfl rfl ?_)
    intro V XV BV sV
    have h0 := XV.cell (i := 0) rfl
    have h1 := XV.cell (i := 1) rfl
    have h2 := XV.cell (i := 2) rfl
    have h3 := XV.cell (i := 3) rfl
    go_wp2_with fail
    exact bodyPost_ret (v := tkV z) (by simp [results, Tryz.results62, go_sem, *]) rfl ⟨rfl, BB.trans (BV.below (Nat.le_refl _) BB.size)⟩

theorem tol_inj {a b : ByteArray} (h : a.toList = b.toList) : a = b := by
  rw [ByteArray.toList_eq, ByteArray.toList_eq] at h
  obtain ⟨⟨x⟩⟩ := a
  obtain ⟨⟨y⟩⟩ := b
  simp only at h
  subst h
  rfl
theorem tol_eq (a b : ByteArray) : (a.toList == b.toList) = decide (a = b) := by
  by_cases h : a = b
  · subst h; simp
  · rw [decide_eq_false h]
    exact beq_eq_false_iff_ne.2 fun e => h (tol_inj e)

set_option maxRecDepth 100000 in
theorem accept_yes (w : World) (b : Nat) (s : PS) (t : ByteArray) (S : St w b s) (ht : t ≠ ⟨#[]⟩) (h : acp t s = true) : Calls Tryz.prog 67 #[ptr b, .string t] w fun e w' => e = .returned (.bool true) ∧ St w' b (adv s) ∧ But b w w' := by
  have S0 := Lib.hid S
  have hb := S.lt
  have hg := Lib.hid (acp_gd ht h S.gd)
  have hx := Lib.hid (acp_iff.1 h)
  have he : (t.toList == t.toList) = true := beq_self_eq_true _
  have f1 := fld_t
  clear S h ht
  go_enter Tryz.func67, Tryz.ntmps67
  go_wp2_with (go_at_call 62; (refine (peek_b _ b s S0.out).mono ?_); rintro _ W1 ⟨rfl, B⟩; rw [hx.out]; have S1 := Lib.hid (S0.out.on B); have B1 := Lib.hid B; clear B; obtain ⟨_, A, n, c, at_, toks, X, hs⟩ := S1.out; have c1 := X.c1; have z1 := X.fre 1; have hs := Lib.hid hs; have hlt := (X.here (by rw [← hs.out]; exact S1.out.gd)).1; have hn := X.hn; have X := Lib.hid X)
  go_ret
  exact ⟨rfl, St.advance X.out hs.out hg.out, (But.of B1.out).set _ _⟩

set_option maxRecDepth 100000 in
theorem accept_no (w : World) (b : Nat) (s : PS) (t : ByteArray) (S : St w b s) (h : acp t s = false) : Calls Tryz.prog 67 #[ptr b, .string t] w fun e w' => e = .returned (.bool false) ∧ St w' b s ∧ Below w.heap.size w w' := by
  have S0 := Lib.hid S
  have he : ((tx (pk s)).toList == t.toList) = false := by rw [tol_eq]; exact h
  have f1 := fld_t
  clear S h
  go_enter Tryz.func67, Tryz.ntmps67
  go_wp2_with (go_at_call 62; (refine (peek_b _ b s S0.out).mono ?_); rintro _ W1 ⟨rfl, B⟩; have S1 := Lib.hid (S0.out.on B); have B1 := Lib.hid B; clear B)
  go_ret
  exact ⟨rfl, S1.out, B1.out⟩

theorem accept_b (w : World) (b : Nat) (s : PS) (t : ByteArray) (S : St w b s) (ht : t ≠ ⟨#[]⟩) : Calls Tryz.prog 67 #[ptr b, .string t] w fun e w' => e = .returned (.bool (acp t s)) ∧ St w' b (acS t s) ∧ But b w w' := by
  cases h : acp t s
  · refine (accept_no w b s t S h).mono ?_
    rintro e w' ⟨rfl, S', B⟩
    exact ⟨rfl, by unfold acS; rw [h]; exact S', But.of B⟩
  · refine (accept_yes w b s t S ht h).mono ?_
    rintro e w' ⟨rfl, S', B⟩
    exact ⟨rfl, by unfold acS; rw [if_pos h]; exact S', B⟩

set_option maxRecDepth 100000 in
theorem fail_b (w : World) (b : Nat) (s : PS) (S : St w b s) : Calls Tryz.prog 63 #[ptr b] w fun e w' => e = .returned (.tuple #[]) ∧ St w' b (fl s) ∧ But b w w' := by
  have S0 := Lib.hid S
  obtain ⟨rest, wr⟩ := s
  by_cases h : 0 < wr
  · have e : fl (rest, wr) = (rest, wr) := if_pos h
    have hd : decide (0 < wr) = true := decide_eq_true h
    rw [e]
    clear S e h
    go_enter Tryz.func63, Tryz.ntmps63
    go_wp2_with (go_at_call 64; (refine (failed_b _ b (rest, wr) S0.out).mono ?_); rintro _ _ ⟨rfl, rfl⟩)
    refine norm_end (results_none rfl _ _ _) rfl ?_
    exact ⟨rfl, S0.out, But.refl _ _⟩
  · have e : fl (rest, wr) = (rest, (hdT rest).ln) := if_neg h
    have hd : decide (0 < wr) = false := decide_eq_false h
    rw [e]
    obtain ⟨g, A, n, c, at_, toks, X, hs⟩ := S
    simp only at X hs g
    subst hs
    obtain ⟨hlt, tb, to_, rfl, htb, Etk0⟩ := X.here g
    have Etk : w.rangeAt tb (to_ + at_ * 4) [.int .i64 (hdT (toks.drop at_)).k, .string (tx (hdT (toks.drop at_))), .int .i64 (hdT (toks.drop at_)).v, .int .i64 (hdT (toks.drop at_)).ln] := Etk0
    have d3 : w.cell? ⟨tb, to_ + at_ * 4 + 3, none⟩ = some (.int .i64 (hdT (toks.drop at_)).ln) := Etk 3 _ rfl
    have hg := Lib.hid g
    generalize hz : hdT (toks.drop at_) = z at d3 ⊢
    have c0 := X.c0
    have c1 := X.c1
    have c2 := X.c2
    have z2 := X.fre 2
    have BB := Below.refl w.heap.size w
    have hn := X.hn
    have HX := Lib.hid X
    clear X Etk0 g e Etk hz h
    go_enter Tryz.func63, Tryz.ntmps63
    go_wp2_with (go_at_call 64; (refine (failed_b _ b (List.drop at_ toks, wr) S0.out).mono ?_); rintro _ _ ⟨rfl, rfl⟩)
    have k_c0 := cell_regrown c0
    have k_c1 := cell_regrown c1
    have k_c2 := cell_regrown c2
    have k_d3 := cell_regrown d3
    refine wp_region_tail (n := 14) (by kernel_rfl) (by kernel_rfl) ?_
    simp only [List.take_succ_cons, List.take_zero, List.drop_succ_cons, List.drop_zero]
    repeat (first | go_big_quiet_step ((first | fail)) | quiet_step ((first | fail)))
    refine wpQuiet_nil ?_
    intro W hw'
    have B := below_regrown' hw'
    clear hw' k_c0 k_c1 k_c2 k_d3
    replace BB := bon BB B
    replace z2 := frozen_below B c2 z2
    replace c0 := cell_below B c0
    replace c1 := cell_below B c1
    replace c2 := cell_below B c2
    replace d3 := cell_below B d3
    go_wp2_with fail
    refine norm_end (results_none rfl _ _ _) rfl ?_
    exact ⟨rfl, ⟨hg.out, _, n, c, at_, toks, (HX.out.on BB).set2 _, rfl⟩, (But.of BB).set _ _⟩

set_option maxRecDepth 100000 in
theorem expect_b (w : World) (b : Nat) (s : PS) (t : ByteArray) (S : St w b s) (ht : t ≠ ⟨#[]⟩) : Calls Tryz.prog 65 #[ptr b, .string t] w fun e w' => e = .returned (.tuple #[]) ∧ St w' b (xp t s) ∧ But b w w' := by
  have C := Lib.hid (accept_b w b s t S ht)
  unfold acS xp at *
  cases h : acp t s
  · rw [h, if_neg (by decide)] at C
    rw [if_neg (by decide)]
    clear S ht h
    go_enter Tryz.func65, Tryz.ntmps65
    go_wp2_with (first
      | (go_at_call 67; (refine C.out.mono ?_); rintro _ W1 ⟨rfl, S1, B1⟩)
      | (go_at_call 63; (refine (fail_b _ b s S1).mono ?_); rintro _ W2 ⟨rfl, S2, B2⟩))
    refine norm_end (results_none rfl _ _ _) rfl ?_
    exact ⟨rfl, S2, B1.trans B2⟩
  · rw [h, if_pos rfl] at C
    rw [if_pos rfl]
    clear S ht h
    go_enter Tryz.func65, Tryz.ntmps65
    go_wp2_with (go_at_call 67; (refine C.out.mono ?_); rintro _ W1 ⟨rfl, S1, B1⟩)
    refine norm_end (results_none rfl _ _ _) rfl ?_
    exact ⟨rfl, S1, B1⟩

set_option maxRecDepth 100000 in
theorem isName_b (w : World) (k v l : Int) (t : ByteArray) : Calls Tryz.prog 136 #[.agg #[.int .i64 k, .string t, .int .i64 v, .int .i64 l]] w fun e w' => e = .returned (.bool (k == 1 && !kwd t.toList)) ∧ Below w.heap.size w w' := by
  have HB := Lib.hid (box_below w #[.int .i64 k, .string t, .int .i64 v, .int .i64 l] 60)
  by_cases hk : k = 1
  · subst hk
    go_enter Tryz.func136, Tryz.ntmps136
    go_wp2_with (go_at_call 149; (refine (isKeyword_q t _).mono ?_); rintro _ _ ⟨rfl, rfl⟩)
    go_ret
    exact ⟨by simp, HB.out⟩
  · have e : (k == 1) = false := beq_eq_false_iff_ne.2 hk
    go_enter Tryz.func136, Tryz.ntmps136
    go_wp2_with fail
    go_ret
    exact ⟨by simp [e], HB.out⟩

end Go.Proofs.YtjpkcgepdfpbnaaGreatDoor

/- The parser's method name; what calls of expressions return. -/
namespace Go.Proofs.YtjpkcgepdfpbnaaGreatDoor
open Go.RowKit Go.Sort Go.ChangeShapes Go.WideShapes
set_option linter.unusedVariables false

set_option maxRecDepth 100000 in
theorem name_b (w : World) (b : Nat) (s : PS) (S : St w b s) : Calls Tryz.prog 113 #[ptr b] w fun e w' => e = .returned (.string (nmT s)) ∧ St w' b (nmS s) ∧ But b w w' := by
  have S0 := Lib.hid S
  have hg := fun h => Lib.hid (nmq_gd (s := s) h S.gd)
  unfold nmT nmS at *
  cases h : nmq (pk s)
  · rw [if_neg (by decide), if_neg (by decide)]
    have hq : ((pk s).k == 1 && !kwd (tx (pk s)).toList) = false := h
    obtain ⟨z, hz⟩ : ∃ z, pk s = z := ⟨_, rfl⟩
    have CP := Lib.hid (peek_b w b s S)
    rw [hz] at hq CP
    clear S h hg hz
    go_enter Tryz.func113, Tryz.ntmps113
    go_wp2_with (first
      | (go_at_call 62; (refine CP.out.mono ?_); rintro _ W1 ⟨rfl, B⟩; have S1 := Lib.hid (S0.out.on B); have B1 := Lib.hid B; clear B)
      | (go_at_call 136; (refine (isName_b _ _ _ _ _).mono ?_); rintro _ W2 ⟨rfl, B⟩; have S2 := Lib.hid ((S1.out.on (box_below _ _ _)).on B); have B2 := Lib.hid (B1.out.trans ((box_below _ _ _).trans (B.mono (by simp))  |>.mono B1.out.size)); clear B)
      | (go_at_call 63; (refine (fail_b _ b s S2.out).mono ?_); rintro _ W3 ⟨rfl, S3, B3⟩))
    go_ret
    exact ⟨rfl, S3, (But.of B2.out).trans B3⟩
  · rw [if_pos rfl, if_pos rfl]
    have hq : ((pk s).k == 1 && !kwd (tx (pk s)).toList) = true := h
    have HG := hg h
    obtain ⟨z, hz⟩ : ∃ z, pk s = z := ⟨_, rfl⟩
    have CP := Lib.hid (peek_b w b s S)
    rw [hz] at hq CP ⊢
    clear S h hg hz
    go_enter Tryz.func113, Tryz.ntmps113
    go_wp2_with (first
      | (go_at_call 62; (refine CP.out.mono ?_); rintro _ W1 ⟨rfl, B⟩; have S1 := Lib.hid (S0.out.on B); have B1 := Lib.hid B; clear B; have X1 := EBox.made W1 #[.int .i64 z.k, .string (tx z), .int .i64 z.v, .int .i64 z.ln] 60)
      | (go_at_call 136; (refine (isName_b _ _ _ _ _).mono ?_); rintro _ W2 ⟨rfl, B⟩; have S2 := Lib.hid ((S1.out.on (box_below _ _ _)).on B); have B2 := Lib.hid (B1.out.trans ((box_below _ _ _).trans (B.mono (by simp))  |>.mono B1.out.size)); replace X1 := EBox.on X1 (Nat.succ_pos _) B; clear B; obtain ⟨_, A, n, c, at_, toks, X, hs⟩ := S2.out; have c1 := X.c1; have z1 := X.fre 1; have hs := Lib.hid hs; have hlt := (X.here (by rw [← hs.out]; exact S2.out.gd)).1; have hn := X.hn; have X := Lib.hid X; have x1 := X1.cell (i := 1) rfl; have hne : W1.heap.size ≠ b := Nat.ne_of_gt S1.out.lt))
    trace_state
    go_ret
    exact ⟨rfl, St.advance X.out hs.out HG.out, (But.of B2.out).set _ _⟩

end Go.Proofs.YtjpkcgepdfpbnaaGreatDoor
