/- One instruction of the validator, and Validate, of package isa. -/
import Derived.Test.YtnhnbblplnhmlaaGreatDoorU4
namespace Go.Proofs.YtnhnbblplnhmlaaGreatDoor
set_option linter.unusedSimpArgs false
open Go.RowKit Go.Sort Go.ChangeShapes Go.WideShapes
set_option linter.unusedVariables false

theorem ck1_ways (p : Pr) (x : In) (s : List Int) : (okO x.o = false ∧ ck1 p x s = (10, s)) ∨ (okO x.o = true ∧ only x = false ∧ ck1 p x s = (2, s)) ∨ (okO x.o = true ∧ only x = true ∧ (regs p.rg x = false ∨ regs p.rg x = true ∧ immO p x.o x.i = false) ∧ ck1 p x s = (6, s)) ∨
    (okO x.o = true ∧ only x = true ∧ regs p.rg x = true ∧ immO p x.o x.i = true ∧ stp p.st x.o s = none ∧ ck1 p x s = (16, s)) ∨ (∃ t, okO x.o = true ∧ only x = true ∧ regs p.rg x = true ∧ immO p x.o x.i = true ∧ stp p.st x.o s = some t ∧ ck1 p x s = (0, t)) := by
  unfold ck1
  cases h1 : okO x.o
  · simp
  cases h2 : only x
  · simp
  cases h3 : regs p.rg x
  · simp
  cases h4 : immO p x.o x.i
  · simp
  cases h5 : stp p.st x.o s with
  | none => simp
  | some t => simp

section
variable {ops : Array Oper} {Q : Exit → Act → World → Prop} {rest : List Oper} {a : Act} {W : World}
/-- A whole instruction loaded. -/
theorem iload {dst : Option Tmp} {ty : TypeId} {y : Operand} {pos : String} {after : Array Edge} {b o : Nat} {x : In} (k : W.rangeAt b o (inC x)) (hx : a.eval y = .pointer (some ⟨b, o, none⟩))
    (H : wpList Tryz.prog ops Q rest (a.put dst (.agg (inA x))) W) : wpList Tryz.prog ops Q ({ dst := dst, op := .load 24 y, type := ty, pos := pos, after := after, guard := none } :: rest) a W :=
  eloadL (cs := inC x) rk_in k hx H
/-- Stored into a block laid just now. -/
theorem istore {dst : Option Tmp} {ty : TypeId} {y u : Operand} {pos : String} {after : Array Edge} {x : In} {z0 z1 z2 z3 z4 z5 : Value} (hx : a.eval y = .pointer (some ⟨W.heap.size, 0, none⟩)) (hy : a.eval u = .agg (inA x))
    (H : wpList Tryz.prog ops Q rest (a.put dst undef) (W.alloc (.cells (inA x) 24))) : wpList Tryz.prog ops Q ({ dst := dst, op := .store 24 y u, type := ty, pos := pos, after := after, guard := none } :: rest) a (W.alloc (.cells #[z0, z1, z2, z3, z4, z5] 24)) :=
  estoreL (cs := inA x) rk_in.size rfl (by simp [inA, Value.oneCell']) hx hy H
/-- A whole program loaded. -/
theorem pload {dst : Option Tmp} {ty : TypeId} {y : Operand} {pos : String} {after : Array Edge} {b o : Nat} {p : Pr} {A : Option Addr} {n c : Nat} (k : W.rangeAt b o (prA p A n c).toList) (hx : a.eval y = .pointer (some ⟨b, o, none⟩))
    (H : wpList Tryz.prog ops Q rest (a.put dst (.agg #[.int .i64 p.st, .int .i64 p.rg, .int .i64 p.ip, .int .i64 p.ou, .int .i64 p.un, .int .i64 p.tx, .int .i64 p.bf, .slice A n c])) W) : wpList Tryz.prog ops Q ({ dst := dst, op := .load 31 y, type := ty, pos := pos, after := after, guard := none } :: rest) a W :=
  eloadL (cs := (prA p A n c).toList) rk_pr k hx H
end

theorem rngP (w : World) (p : Pr) (A : Option Addr) (n c : Nat) (t : TypeId) : (w.alloc (.cells (prA p A n c) t)).rangeAt w.heap.size 0 (prA p A n c).toList := fun j v hv => by
  rw [Nat.zero_add]
  exact box_cell w _ t j v (by simpa using hv)

theorem rngI (w : World) (x : In) (t : TypeId) : (w.alloc (.cells (inA x) t)).rangeAt w.heap.size 0 (inC x) := fun j v hv => by
  rw [Nat.zero_add]
  exact box_cell w _ t j v (by simpa [inA, inC] using hv)

/-- The first error of an instruction, and the validator behind it. -/
def GivesV (W : World) (b : Nat) (p : Pr) (A : Option Addr) (n c : Nat) (r : Int × List Int) (e : Ending) (w' : World) : Prop := e = .returned (.int .i64 r.1) ∧ VSt w' b p A n c r.2 ∧ Below b W w'

set_option maxRecDepth 100000 in
set_option maxHeartbeats 4000000 in
theorem instruction_b (b : Nat) (p : Pr) (A : Option Addr) (n c : Nat) (s : List Int) (x : In) (w : World) (h : VSt w b p A n c s) (hs : s.length ≤ 16384) (hk : Kn s) (hp : cnts p = true) :
    Calls Tryz.prog 41 #[.pointer (some ⟨b, 0, none⟩), .agg (inA x)] w (GivesV w b p A n c (ck1 p x s)) := by
  obtain ⟨c0, c1, c2, c3, c4, c5, BB⟩ := boxI w x 24
  have V1 := h.on BB
  have E0 := rngI w x 24
  have hlt := h.lt
  have CV := Lib.hid (fun W => valid_q x.o W)
  have CO := Lib.hid (fun W => hasOnly_b x W)
  have CR := Lib.hid (fun W V => hasRegisters_b b p A n c s x W V hp)
  have CI := Lib.hid (fun W V => isImmediate_q b p A n c s x.o x.i W V hp)
  have CP := Lib.hid (fun W V => isPlaced_b b p A n c s x.o W V hk hs)
  have CF := Lib.hid (fun t W V q => follow_b b p A n c s t x.o W V hs hk q)
  have HV := Lib.hid V1
  clear h V1
  rcases ck1_ways p x s with ⟨h1, hr⟩ | ⟨h1, h2, hr⟩ | ⟨h1, h2, h3, hr⟩ | ⟨h1, h2, h3, h4, h5, hr⟩ | ⟨t, h1, h2, h3, h4, h5, hr⟩
  case' inr.inr.inl => rcases h3 with h3 | ⟨h3, h4⟩
  all_goals
    rw [hr]
    clear hr
    try rw [h1] at CV
    try rw [h2] at CO
    try rw [h3] at CR
    try rw [h4] at CI
    try (have H5 := Lib.hid h5)
    try rw [h5] at CP
    try simp only [Option.isSome_none, Option.isSome_some] at CP
    clear hs hk hp
    try clear h5
    go_enter Tryz.func41, Tryz.ntmps41
    go_wp2_with (first
      | (go_at_call 84; (with_reducible refine (CV.out _).mono ?_); rintro _ _ ⟨rfl, rfl⟩)
      | (with_reducible refine iload E0 rfl ?_; go_simp)
      | (go_at_call 85; (with_reducible refine (CO.out _).mono ?_); rintro _ _ ⟨rfl, B⟩; (replace BB := bon BB B; replace c0 := cell_below B c0; replace c5 := cell_below B c5; replace E0 := rangeAt_on E0 B); replace HV := Lib.hid (HV.out.on B); clear B)
      | (go_at_call 86; (with_reducible refine (CR.out _ HV.out).mono ?_); rintro _ _ ⟨rfl, B⟩; (replace BB := bon BB B; replace c0 := cell_below B c0; replace c5 := cell_below B c5; replace E0 := rangeAt_on E0 B); replace HV := Lib.hid (HV.out.on B); clear B)
      | (go_at_call 87; (with_reducible refine (CI.out _ HV.out).mono ?_); rintro _ _ ⟨rfl, rfl⟩)
      | (go_at_call 88; (with_reducible refine (CP.out _ HV.out).mono ?_); rintro _ _ ⟨rfl, B⟩; (replace BB := bon BB B; replace c0 := cell_below B c0; replace c5 := cell_below B c5; replace E0 := rangeAt_on E0 B); replace HV := Lib.hid (HV.out.on B); clear B)
      | (go_at_call 89; (with_reducible refine (CF.out _ _ HV.out H5.out).mono ?_); rintro _ W9 ⟨rfl, V9, B9⟩))
    all_goals go_ret
    all_goals first
      | exact ⟨rfl, HV.out, BB.mono (Nat.le_of_lt hlt)⟩
      | exact ⟨rfl, V9, (BB.mono (Nat.le_of_lt hlt)).trans B9⟩

set_option maxRecDepth 100000 in
set_option maxHeartbeats 2000000 in
theorem hasValid_q (p : Pr) (A : Option Addr) (n c : Nat) (w : World) : Calls Tryz.prog 40 #[.agg (prA p A n c)] w fun e w' => e = .returned (.bool (cnts p)) ∧ Below w.heap.size w w' := by
  obtain ⟨c0, c1, c2, c3, c4, c5, c6, c7, BB⟩ := boxP w p A n c 31
  have w1 := fun W => isWithin_q p.rg 0 8192 W
  obtain ⟨g1, hg1⟩ : ∃ g, wth p.rg 0 8192 = g := ⟨_, rfl⟩
  rw [hg1] at w1
  have w2 := fun W => isWithin_q p.ip 0 32 W
  obtain ⟨g2, hg2⟩ : ∃ g, wth p.ip 0 32 = g := ⟨_, rfl⟩
  rw [hg2] at w2
  have w3 := fun W => isWithin_q p.ou 0 32 W
  obtain ⟨g3, hg3⟩ : ∃ g, wth p.ou 0 32 = g := ⟨_, rfl⟩
  rw [hg3] at w3
  have w4 := fun W => isWithin_q p.un 0 64 W
  obtain ⟨g4, hg4⟩ : ∃ g, wth p.un 0 64 = g := ⟨_, rfl⟩
  rw [hg4] at w4
  have w5 := fun W => isWithin_q p.tx 0 4 W
  obtain ⟨g5, hg5⟩ : ∃ g, wth p.tx 0 4 = g := ⟨_, rfl⟩
  rw [hg5] at w5
  have w6 := fun W => isWithin_q p.bf 0 4 W
  obtain ⟨g6, hg6⟩ : ∃ g, wth p.bf 0 4 = g := ⟨_, rfl⟩
  rw [hg6] at w6
  have e : cnts p = (g1 && g2 && g3 && g4 && g5 && g6) := by unfold cnts; rw [hg1, hg2, hg3, hg4, hg5, hg6]
  rw [e]
  clear e hg1 hg2 hg3 hg4 hg5 hg6
  have W1 := Lib.hid w1
  have W2 := Lib.hid w2
  have W3 := Lib.hid w3
  have W4 := Lib.hid w4
  have W5 := Lib.hid w5
  have W6 := Lib.hid w6
  clear w1 w2 w3 w4 w5 w6
  rcases (show g1 = false ∨ g1 = true ∧ g2 = false ∨ g1 = true ∧ g2 = true ∧ g3 = false ∨ g1 = true ∧ g2 = true ∧ g3 = true ∧ g4 = false ∨ g1 = true ∧ g2 = true ∧ g3 = true ∧ g4 = true ∧ g5 = false ∨ g1 = true ∧ g2 = true ∧ g3 = true ∧ g4 = true ∧ g5 = true by
    cases g1 <;> cases g2 <;> cases g3 <;> cases g4 <;> cases g5 <;> simp) with rfl | ⟨rfl, rfl⟩ | ⟨rfl, rfl, rfl⟩ | ⟨rfl, rfl, rfl, rfl⟩ | ⟨rfl, rfl, rfl, rfl, rfl⟩ | ⟨rfl, rfl, rfl, rfl, rfl⟩
  all_goals
    go_enter Tryz.func40, Tryz.ntmps40
    go_wp2_with (go_at_call 80; (first | (with_reducible refine (W1.out _).mono ?_) | (with_reducible refine (W2.out _).mono ?_) | (with_reducible refine (W3.out _).mono ?_) | (with_reducible refine (W4.out _).mono ?_) | (with_reducible refine (W5.out _).mono ?_) | (with_reducible refine (W6.out _).mono ?_)); rintro _ _ ⟨rfl, rfl⟩)
    go_ret
    exact ⟨rfl, BB⟩

theorem ck1_inv {p : Pr} {x : In} {s t : List Int} {e : Int} (h : ck1 p x s = (e, t)) (hk : Kn s) : Kn t ∧ t.length ≤ s.length + 1 := by
  rcases ck1_ways p x s with ⟨_, hr⟩ | ⟨_, _, hr⟩ | ⟨_, _, _, hr⟩ | ⟨_, _, _, _, _, hr⟩ | ⟨t', _, _, _, _, h5, hr⟩
  all_goals
    rw [hr] at h
    obtain ⟨rfl, rfl⟩ := Prod.mk.inj h
  case inr.inr.inr.inr => exact stp_kn hk h5
  all_goals exact ⟨hk, by omega⟩

theorem ckL_on {p : Pr} {l : List In} {k : Nat} {x : In} {s t : List Int} {G : Int} (h : ckL p (l.drop k) s = G) (hx : l[k]? = some x) (hc : ck1 p x s = (0, t)) : ckL p (l.drop (k + 1)) t = G := by
  obtain ⟨hk, rfl⟩ := List.getElem?_eq_some_iff.1 hx
  rw [List.drop_eq_getElem_cons hk, ckL, hc, if_pos rfl] at h
  exact h
theorem ckL_off {p : Pr} {l : List In} {k : Nat} {x : In} {s t : List Int} {e G : Int} (h : ckL p (l.drop k) s = G) (hx : l[k]? = some x) (hc : ck1 p x s = (e, t)) (he : e ≠ 0) : e = G := by
  obtain ⟨hk, rfl⟩ := List.getElem?_eq_some_iff.1 hx
  rw [List.drop_eq_getElem_cons hk, ckL, hc, if_neg he] at h
  exact h

end Go.Proofs.YtnhnbblplnhmlaaGreatDoor
