/- Equal: of package slices over instructions, of package isa, of the reference. -/
import Derived.Test.YtnhnbblplnhmlaaDoorU5
import Derived.ChangeKeysEq
namespace Go.Proofs.YtnhnbblplnhmlaaDoor
set_option linter.unusedSimpArgs false
open Go.RowKit Go.Sort Go.ChangeShapes Go.WideShapes
set_option linter.unusedVariables false

theorem guard6 : Tryd.prog.eqGuardType Tryd.prog.depth 40 = false := by kernel_rfl

/-- Two instructions are equal, field by field. -/
def eqI (x y : In) : Bool := x.o == y.o && (x.d == y.d && (x.a == y.a && (x.b == y.b && (x.c == y.c && x.i == y.i))))

theorem eqI_iff (x y : In) : eqI x y = true ↔ x = y := by
  obtain ⟨x0, x1, x2, x3, x4, x5⟩ := x
  obtain ⟨y0, y1, y2, y3, y4, y5⟩ := y
  simp [eqI]
theorem eqI_self (x : In) : eqI x x = true := (eqI_iff x x).2 rfl
theorem eqI_ne {x y : In} (h : x ≠ y) : eqI x y = false := by
  cases q : eqI x y
  · rfl
  · exact absurd ((eqI_iff x y).1 q) h

theorem fieldsI : Tryd.prog.underlying 40 = some (.struct (Tryd.prog.fieldsOf 40)) := by kernel_rfl

set_option maxHeartbeats 2000000 in
theorem eq6 (x y : In) (w : World) : (Op.equalIn 10000 40 (.agg #[.int .i64 x.o, .int .i64 x.d, .int .i64 x.a, .int .i64 x.b, .int .i64 x.c, .int .i64 x.i]) (.agg #[.int .i64 y.o, .int .i64 y.d, .int .i64 y.a, .int .i64 y.b, .int .i64 y.c, .int .i64 y.i])).run Tryd.prog w = .ok (eqI x y) w := by
  obtain ⟨x0, x1, x2, x3, x4, x5⟩ := x
  obtain ⟨y0, y1, y2, y3, y4, y5⟩ := y
  unfold eqI
  by_cases h0 : x0 = y0
  · by_cases h1 : x1 = y1
    · by_cases h2 : x2 = y2
      · by_cases h3 : x3 = y3
        · by_cases h4 : x4 = y4
          · by_cases h5 : x5 = y5 <;> simp [Op.eqFields, go_sem, h0, h1, h2, h3, h4, h5]
          · simp [Op.eqFields, go_sem, h0, h1, h2, h3, h4]
        · simp [Op.eqFields, go_sem, h0, h1, h2, h3]
      · simp [Op.eqFields, go_sem, h0, h1, h2]
    · simp [Op.eqFields, go_sem, h0, h1]
  · simp [Op.eqFields, go_sem, h0]

/-- Two lists of instructions are equal. -/
def eqL : List In → List In → Bool
  | [], [] => true
  | x :: r, y :: s => eqI x y && eqL r s
  | _, _ => false

theorem eqL_len : ∀ (l m : List In), l.length ≠ m.length → eqL l m = false
  | [], [], h => absurd rfl h
  | x :: r, [], _ => rfl
  | [], y :: s, _ => rfl
  | x :: r, y :: s, h => by
    rw [eqL, eqL_len r s (fun q => h (by rw [List.length_cons, List.length_cons, q])), Bool.and_false]
theorem eqL_self : ∀ l : List In, eqL l l = true
  | [] => rfl
  | x :: r => by rw [eqL, eqI_self, eqL_self r]; rfl
theorem eqL_on {l m : List In} {k : Nat} {x y : In} (h1 : l[k]? = some x) (h2 : m[k]? = some y) : eqL (l.drop k) (m.drop k) = (eqI x y && eqL (l.drop (k + 1)) (m.drop (k + 1))) := by
  obtain ⟨hk, rfl⟩ := List.getElem?_eq_some_iff.1 h1
  obtain ⟨hm, rfl⟩ := List.getElem?_eq_some_iff.1 h2
  rw [List.drop_eq_getElem_cons hk, List.drop_eq_getElem_cons hm, eqL]

set_option maxRecDepth 100000 in
set_option maxHeartbeats 2000000 in
theorem sleq_b (A A2 : Option Addr) (n n2 c c2 : Nat) (l m : List In) (w : World) (R1 : RdE inC 6 w w.heap.size A n l) (R2 : RdE inC 6 w w.heap.size A2 n2 m) (hn : n ≤ 9223372036854775807) (hn2 : n2 ≤ 9223372036854775807) :
    Calls Tryd.prog 39 #[.slice A n c, .slice A2 n2 c2] w fun e w' => e = .returned (.bool (eqL l m)) ∧ Below w.heap.size w w' := by
  have e1 := R1.len
  have e2 := R2.len
  have K1 := Lib.hid R1
  have K2 := Lib.hid R2
  clear R1 R2
  by_cases hne : n = n2
  · subst hne
    have HS : Hid (eqL l m = eqL (l.drop 0) (m.drop 0)) := Lib.hid rfl
    go_enter Tryd.func39, Tryd.ntmps39
    go_wp2
    go_loopw [13] (fun i wr => ∃ k : Nat, k ≤ n ∧ i = .int .i64 k ∧ eqL l m = eqL (l.drop k) (m.drop k) ∧ Below w.heap.size w wr) (fun i _ => n - (intOf i).toNat)
    case atStart => exact ⟨0, Nat.zero_le _, rfl, HS.out, Below.refl _ _⟩
    case round =>
      obtain ⟨k, hk, rfl, hs, BB⟩ := hrel
      rename World => wr
      by_cases hlt : k < n
      · obtain ⟨b1, o1, x, rfl, l1, q1, hx⟩ := (K1.out.below BB).at_ hlt
        obtain ⟨b2, o2, y, rfl, l2, q2, hy⟩ := (K2.out.below BB).at_ hlt
        have r1 : wr.rangeAt b1 (o1 + k * 6) [.int .i64 x.o, .int .i64 x.d, .int .i64 x.a, .int .i64 x.b, .int .i64 x.c, .int .i64 x.i] := q1
        have r2 : wr.rangeAt b2 (o2 + k * 6) [.int .i64 y.o, .int .i64 y.d, .int .i64 y.a, .int .i64 y.b, .int .i64 y.c, .int .i64 y.i] := q2
        have EQ := eq6 x y
        have GU := guard6
        rw [eqL_on hx.out hy.out] at hs
        cases hq : eqI x y
        all_goals
          rw [hq] at EQ hs
          have HS2 := Lib.hid hs
          clear hs hq hx hy q1 q2 K1 K2 HS
          go_wp2_with fail
          refine wp_region_quiet_below (by kernel_rfl) (by kernel_rfl) ?_
          repeat (first
            | (go_big_quiet_want; refine quiet_eload _ _ rfl rk_in rfl (fun W hW => rangeAt_on r1 (below_regrown' hW)) rfl ?_; go_simp; go_big_quiet_on)
            | (go_big_quiet_want; refine quiet_eload _ _ rfl rk_in rfl (fun W hW => rangeAt_on r2 (below_regrown' hW)) rfl ?_; go_simp; go_big_quiet_on)
            | go_big_quiet_step (fail) | quiet_step (fail))
          refine wpQuiet_nil ?_
          intro W hw'
          have B := below_regrown' hw'
          clear hw'
          replace BB := bon BB B
          go_wp2
        · go_ret
          exact ⟨ret_bool2 (by rw [HS2.out]; rfl), BB⟩
        · go_roundw
          case rel => exact ⟨k + 1, by omega, by go_num, by rw [HS2.out]; rfl, BB⟩
          case measure => simp [intOf]; omega
      · obtain rfl : k = n := by omega
        rw [List.drop_eq_nil_of_le (by omega), List.drop_eq_nil_of_le (by omega)] at hs
        have HS2 := Lib.hid hs
        clear hs HS
        go_wp2
        go_ret
        exact ⟨ret_bool2 (by rw [HS2.out]; rfl), BB⟩
  · rw [eqL_len l m (by omega)]
    have hne2 : ((n : Int) == (n2 : Int)) = false := by simp; omega
    go_enter Tryd.func39, Tryd.ntmps39
    go_wp2
    go_ret
    exact ⟨rfl, Below.refl _ _⟩

/-- Two programs are equal. -/
def eqP (p q : Pr) : Bool := p.st == q.st && (p.rg == q.rg && (p.ip == q.ip && (p.ou == q.ou && (p.un == q.un && (p.tx == q.tx && (p.bf == q.bf && eqL p.cd q.cd))))))

theorem eqP_self (p : Pr) : eqP p p = true := by simp [eqP, eqL_self]

/-- Two boxes of programs. -/
theorem boxPP (w : World) (p q : Pr) (A A2 : Option Addr) (n n2 c c2 : Nat) (t : TypeId) {W : World} (hW : W = (w.alloc (.cells (prA p A n c) t)).alloc (.cells (prA q A2 n2 c2) t)) :
    W.cell? ⟨w.heap.size, 0, none⟩ = some (.int .i64 p.st) ∧ W.cell? ⟨w.heap.size, 1, none⟩ = some (.int .i64 p.rg) ∧ W.cell? ⟨w.heap.size, 2, none⟩ = some (.int .i64 p.ip) ∧ W.cell? ⟨w.heap.size, 3, none⟩ = some (.int .i64 p.ou) ∧ W.cell? ⟨w.heap.size, 4, none⟩ = some (.int .i64 p.un) ∧ W.cell? ⟨w.heap.size, 5, none⟩ = some (.int .i64 p.tx) ∧ W.cell? ⟨w.heap.size, 6, none⟩ = some (.int .i64 p.bf) ∧ W.cell? ⟨w.heap.size, 7, none⟩ = some (.slice A n c) ∧
    W.cell? ⟨w.heap.size + 1, 0, none⟩ = some (.int .i64 q.st) ∧ W.cell? ⟨w.heap.size + 1, 1, none⟩ = some (.int .i64 q.rg) ∧ W.cell? ⟨w.heap.size + 1, 2, none⟩ = some (.int .i64 q.ip) ∧ W.cell? ⟨w.heap.size + 1, 3, none⟩ = some (.int .i64 q.ou) ∧ W.cell? ⟨w.heap.size + 1, 4, none⟩ = some (.int .i64 q.un) ∧ W.cell? ⟨w.heap.size + 1, 5, none⟩ = some (.int .i64 q.tx) ∧ W.cell? ⟨w.heap.size + 1, 6, none⟩ = some (.int .i64 q.bf) ∧ W.cell? ⟨w.heap.size + 1, 7, none⟩ = some (.slice A2 n2 c2) ∧ Below w.heap.size w W := by
  subst hW
  obtain ⟨a0, a1, a2, a3, a4, a5, a6, a7, BB⟩ := boxP w p A n c t
  obtain ⟨d0, d1, d2, d3, d4, d5, d6, d7, _⟩ := boxP (w.alloc (.cells (prA p A n c) t)) q A2 n2 c2 t
  have BX := box_below (w.alloc (.cells (prA p A n c) t)) (prA q A2 n2 c2) t
  have e : (w.alloc (.cells (prA p A n c) t)).heap.size = w.heap.size + 1 := by simp
  rw [e] at d0 d1 d2 d3 d4 d5 d6 d7
  exact ⟨cell_below BX a0, cell_below BX a1, cell_below BX a2, cell_below BX a3, cell_below BX a4, cell_below BX a5, cell_below BX a6, cell_below BX a7, d0, d1, d2, d3, d4, d5, d6, d7, bon BB BX⟩

set_option maxRecDepth 100000 in
set_option maxHeartbeats 4000000 in
theorem equal_b (p q : Pr) (A A2 : Option Addr) (n n2 c c2 : Nat) (w : World) (R1 : RdE inC 6 w w.heap.size A n p.cd) (R2 : RdE inC 6 w w.heap.size A2 n2 q.cd) (hn : n ≤ 9223372036854775807) (hn2 : n2 ≤ 9223372036854775807) :
    Calls Tryd.prog 25 #[.agg (prA p A n c), .agg (prA q A2 n2 c2)] w fun e w' => e = .returned (.bool (eqP p q)) ∧ Below w.heap.size w w' := by
  have K1 := Lib.hid R1
  have K2 := Lib.hid R2
  have e1 := R1.len
  have e2 := R2.len
  obtain ⟨p0, p1, p2, p3, p4, p5, p6, l⟩ := p
  obtain ⟨q0, q1, q2, q3, q4, q5, q6, m⟩ := q
  have HB := Lib.hid (boxPP w ⟨p0, p1, p2, p3, p4, p5, p6, l⟩ ⟨q0, q1, q2, q3, q4, q5, q6, m⟩ A A2 n n2 c c2 31 rfl)
  dsimp only at K1 K2 e1 e2
  clear R1 R2
  unfold eqP
  dsimp only
  by_cases h0 : p0 = q0
  case neg =>
    have g : (p0 == q0) = false := by simpa using h0
    have g2 : (p0 != q0) = true := by simpa using h0
    have HG : Hid ((p0 == q0 && (p1 == q1 && (p2 == q2 && (p3 == q3 && (p4 == q4 && (p5 == q5 && (p6 == q6 && eqL l m))))))) = false) := Lib.hid (by simp [g])
    rw [HG.out]
    obtain ⟨a0, a1, a2, a3, a4, a5, a6, a7, d0, d1, d2, d3, d4, d5, d6, d7, BB⟩ := HB.out
    clear HG h0
    go_enter Tryd.func25, Tryd.ntmps25
    go_wp2
    go_ret
    exact ⟨rfl, BB⟩
  subst h0
  have z0 : (p0 != p0) = false := by simp
  by_cases h1 : p1 = q1
  case neg =>
    have g : (p1 == q1) = false := by simpa using h1
    have g2 : (p1 != q1) = true := by simpa using h1
    have HG : Hid ((p0 == p0 && (p1 == q1 && (p2 == q2 && (p3 == q3 && (p4 == q4 && (p5 == q5 && (p6 == q6 && eqL l m))))))) = false) := Lib.hid (by simp [g])
    rw [HG.out]
    obtain ⟨a0, a1, a2, a3, a4, a5, a6, a7, d0, d1, d2, d3, d4, d5, d6, d7, BB⟩ := HB.out
    clear HG h1
    go_enter Tryd.func25, Tryd.ntmps25
    go_wp2
    go_ret
    exact ⟨rfl, BB⟩
  subst h1
  have z1 : (p1 != p1) = false := by simp
  by_cases h2 : p2 = q2
  case neg =>
    have g : (p2 == q2) = false := by simpa using h2
    have g2 : (p2 != q2) = true := by simpa using h2
    have HG : Hid ((p0 == p0 && (p1 == p1 && (p2 == q2 && (p3 == q3 && (p4 == q4 && (p5 == q5 && (p6 == q6 && eqL l m))))))) = false) := Lib.hid (by simp [g])
    rw [HG.out]
    obtain ⟨a0, a1, a2, a3, a4, a5, a6, a7, d0, d1, d2, d3, d4, d5, d6, d7, BB⟩ := HB.out
    clear HG h2
    go_enter Tryd.func25, Tryd.ntmps25
    go_wp2
    go_ret
    exact ⟨rfl, BB⟩
  subst h2
  have z2 : (p2 != p2) = false := by simp
  by_cases h3 : p3 = q3
  case neg =>
    have g : (p3 == q3) = false := by simpa using h3
    have g2 : (p3 != q3) = true := by simpa using h3
    have HG : Hid ((p0 == p0 && (p1 == p1 && (p2 == p2 && (p3 == q3 && (p4 == q4 && (p5 == q5 && (p6 == q6 && eqL l m))))))) = false) := Lib.hid (by simp [g])
    rw [HG.out]
    obtain ⟨a0, a1, a2, a3, a4, a5, a6, a7, d0, d1, d2, d3, d4, d5, d6, d7, BB⟩ := HB.out
    clear HG h3
    go_enter Tryd.func25, Tryd.ntmps25
    go_wp2
    go_ret
    exact ⟨rfl, BB⟩
  subst h3
  have z3 : (p3 != p3) = false := by simp
  by_cases h4 : p4 = q4
  case neg =>
    have g : (p4 == q4) = false := by simpa using h4
    have g2 : (p4 != q4) = true := by simpa using h4
    have HG : Hid ((p0 == p0 && (p1 == p1 && (p2 == p2 && (p3 == p3 && (p4 == q4 && (p5 == q5 && (p6 == q6 && eqL l m))))))) = false) := Lib.hid (by simp [g])
    rw [HG.out]
    obtain ⟨a0, a1, a2, a3, a4, a5, a6, a7, d0, d1, d2, d3, d4, d5, d6, d7, BB⟩ := HB.out
    clear HG h4
    go_enter Tryd.func25, Tryd.ntmps25
    go_wp2
    go_ret
    exact ⟨rfl, BB⟩
  subst h4
  have z4 : (p4 != p4) = false := by simp
  by_cases h5 : p5 = q5
  case neg =>
    have g : (p5 == q5) = false := by simpa using h5
    have g2 : (p5 != q5) = true := by simpa using h5
    have HG : Hid ((p0 == p0 && (p1 == p1 && (p2 == p2 && (p3 == p3 && (p4 == p4 && (p5 == q5 && (p6 == q6 && eqL l m))))))) = false) := Lib.hid (by simp [g])
    rw [HG.out]
    obtain ⟨a0, a1, a2, a3, a4, a5, a6, a7, d0, d1, d2, d3, d4, d5, d6, d7, BB⟩ := HB.out
    clear HG h5
    go_enter Tryd.func25, Tryd.ntmps25
    go_wp2
    go_ret
    exact ⟨rfl, BB⟩
  subst h5
  have z5 : (p5 != p5) = false := by simp
  by_cases h6 : p6 = q6
  case neg =>
    have g : (p6 == q6) = false := by simpa using h6
    have g2 : (p6 != q6) = true := by simpa using h6
    have HG : Hid ((p0 == p0 && (p1 == p1 && (p2 == p2 && (p3 == p3 && (p4 == p4 && (p5 == p5 && (p6 == q6 && eqL l m))))))) = false) := Lib.hid (by simp [g])
    rw [HG.out]
    obtain ⟨a0, a1, a2, a3, a4, a5, a6, a7, d0, d1, d2, d3, d4, d5, d6, d7, BB⟩ := HB.out
    clear HG h6
    go_enter Tryd.func25, Tryd.ntmps25
    go_wp2
    go_ret
    exact ⟨rfl, BB⟩
  subst h6
  have z6 : (p6 != p6) = false := by simp
  have HG : Hid ((p0 == p0 && (p1 == p1 && (p2 == p2 && (p3 == p3 && (p4 == p4 && (p5 == p5 && (p6 == p6 && eqL l m))))))) = eqL l m) := Lib.hid (by simp)
  rw [HG.out]
  obtain ⟨a0, a1, a2, a3, a4, a5, a6, a7, d0, d1, d2, d3, d4, d5, d6, d7, BB⟩ := HB.out
  have CS := Lib.hid (fun W h => sleq_b A A2 n n2 c c2 l m W ((K1.out.below h).more h.size) ((K2.out.below h).more h.size) hn hn2)
  clear HG
  go_enter Tryd.func25, Tryd.ntmps25
  go_wp2_with (go_at_call 39; (with_reducible refine (CS.out _ BB).mono ?_); rintro _ _ ⟨rfl, B⟩; replace BB := bon BB B; clear B)
  go_ret
  exact ⟨rfl, BB⟩

set_option maxRecDepth 100000 in
set_option maxHeartbeats 4000000 in
theorem requal_b (p q : Pr) (A A2 : Option Addr) (n n2 c c2 : Nat) (w : World) (R1 : RdE inC 6 w w.heap.size A n p.cd) (R2 : RdE inC 6 w w.heap.size A2 n2 q.cd) (hn : n ≤ 9223372036854775807) (hn2 : n2 ≤ 9223372036854775807) :
    Calls Tryd.prog 26 #[.agg (prA p A n c), .agg (prA q A2 n2 c2)] w fun e w' => e = .returned (.bool (eqP p q)) ∧ Below w.heap.size w w' := by
  have K1 := Lib.hid R1
  have K2 := Lib.hid R2
  have e1 := R1.len
  have e2 := R2.len
  obtain ⟨p0, p1, p2, p3, p4, p5, p6, l⟩ := p
  obtain ⟨q0, q1, q2, q3, q4, q5, q6, m⟩ := q
  have HB := Lib.hid (boxPP w ⟨p0, p1, p2, p3, p4, p5, p6, l⟩ ⟨q0, q1, q2, q3, q4, q5, q6, m⟩ A A2 n n2 c c2 31 rfl)
  dsimp only at K1 K2 e1 e2
  clear R1 R2
  unfold eqP
  dsimp only
  by_cases h0 : p0 = q0
  case neg =>
    have g : (p0 == q0) = false := by simpa using h0
    have g2 : (p0 != q0) = true := by simpa using h0
    have HG : Hid ((p0 == q0 && (p1 == q1 && (p2 == q2 && (p3 == q3 && (p4 == q4 && (p5 == q5 && (p6 == q6 && eqL l m))))))) = false) := Lib.hid (by simp [g])
    rw [HG.out]
    obtain ⟨a0, a1, a2, a3, a4, a5, a6, a7, d0, d1, d2, d3, d4, d5, d6, d7, BB⟩ := HB.out
    clear HG h0
    go_enter Tryd.func26, Tryd.ntmps26
    go_wp2
    go_ret
    exact ⟨rfl, BB⟩
  subst h0
  have z0 : (p0 != p0) = false := by simp
  by_cases h1 : p1 = q1
  case neg =>
    have g : (p1 == q1) = false := by simpa using h1
    have g2 : (p1 != q1) = true := by simpa using h1
    have HG : Hid ((p0 == p0 && (p1 == q1 && (p2 == q2 && (p3 == q3 && (p4 == q4 && (p5 == q5 && (p6 == q6 && eqL l m))))))) = false) := Lib.hid (by simp [g])
    rw [HG.out]
    obtain ⟨a0, a1, a2, a3, a4, a5, a6, a7, d0, d1, d2, d3, d4, d5, d6, d7, BB⟩ := HB.out
    clear HG h1
    go_enter Tryd.func26, Tryd.ntmps26
    go_wp2
    go_ret
    exact ⟨rfl, BB⟩
  subst h1
  have z1 : (p1 != p1) = false := by simp
  by_cases h2 : p2 = q2
  case neg =>
    have g : (p2 == q2) = false := by simpa using h2
    have g2 : (p2 != q2) = true := by simpa using h2
    have HG : Hid ((p0 == p0 && (p1 == p1 && (p2 == q2 && (p3 == q3 && (p4 == q4 && (p5 == q5 && (p6 == q6 && eqL l m))))))) = false) := Lib.hid (by simp [g])
    rw [HG.out]
    obtain ⟨a0, a1, a2, a3, a4, a5, a6, a7, d0, d1, d2, d3, d4, d5, d6, d7, BB⟩ := HB.out
    clear HG h2
    go_enter Tryd.func26, Tryd.ntmps26
    go_wp2
    go_ret
    exact ⟨rfl, BB⟩
  subst h2
  have z2 : (p2 != p2) = false := by simp
  by_cases h3 : p3 = q3
  case neg =>
    have g : (p3 == q3) = false := by simpa using h3
    have g2 : (p3 != q3) = true := by simpa using h3
    have HG : Hid ((p0 == p0 && (p1 == p1 && (p2 == p2 && (p3 == q3 && (p4 == q4 && (p5 == q5 && (p6 == q6 && eqL l m))))))) = false) := Lib.hid (by simp [g])
    rw [HG.out]
    obtain ⟨a0, a1, a2, a3, a4, a5, a6, a7, d0, d1, d2, d3, d4, d5, d6, d7, BB⟩ := HB.out
    clear HG h3
    go_enter Tryd.func26, Tryd.ntmps26
    go_wp2
    go_ret
    exact ⟨rfl, BB⟩
  subst h3
  have z3 : (p3 != p3) = false := by simp
  by_cases h4 : p4 = q4
  case neg =>
    have g : (p4 == q4) = false := by simpa using h4
    have g2 : (p4 != q4) = true := by simpa using h4
    have HG : Hid ((p0 == p0 && (p1 == p1 && (p2 == p2 && (p3 == p3 && (p4 == q4 && (p5 == q5 && (p6 == q6 && eqL l m))))))) = false) := Lib.hid (by simp [g])
    rw [HG.out]
    obtain ⟨a0, a1, a2, a3, a4, a5, a6, a7, d0, d1, d2, d3, d4, d5, d6, d7, BB⟩ := HB.out
    clear HG h4
    go_enter Tryd.func26, Tryd.ntmps26
    go_wp2
    go_ret
    exact ⟨rfl, BB⟩
  subst h4
  have z4 : (p4 != p4) = false := by simp
  by_cases h5 : p5 = q5
  case neg =>
    have g : (p5 == q5) = false := by simpa using h5
    have g2 : (p5 != q5) = true := by simpa using h5
    have HG : Hid ((p0 == p0 && (p1 == p1 && (p2 == p2 && (p3 == p3 && (p4 == p4 && (p5 == q5 && (p6 == q6 && eqL l m))))))) = false) := Lib.hid (by simp [g])
    rw [HG.out]
    obtain ⟨a0, a1, a2, a3, a4, a5, a6, a7, d0, d1, d2, d3, d4, d5, d6, d7, BB⟩ := HB.out
    clear HG h5
    go_enter Tryd.func26, Tryd.ntmps26
    go_wp2
    go_ret
    exact ⟨rfl, BB⟩
  subst h5
  have z5 : (p5 != p5) = false := by simp
  by_cases h6 : p6 = q6
  case neg =>
    have g : (p6 == q6) = false := by simpa using h6
    have g2 : (p6 != q6) = true := by simpa using h6
    have HG : Hid ((p0 == p0 && (p1 == p1 && (p2 == p2 && (p3 == p3 && (p4 == p4 && (p5 == p5 && (p6 == q6 && eqL l m))))))) = false) := Lib.hid (by simp [g])
    rw [HG.out]
    obtain ⟨a0, a1, a2, a3, a4, a5, a6, a7, d0, d1, d2, d3, d4, d5, d6, d7, BB⟩ := HB.out
    clear HG h6
    go_enter Tryd.func26, Tryd.ntmps26
    go_wp2
    go_ret
    exact ⟨rfl, BB⟩
  subst h6
  have z6 : (p6 != p6) = false := by simp
  have HG : Hid ((p0 == p0 && (p1 == p1 && (p2 == p2 && (p3 == p3 && (p4 == p4 && (p5 == p5 && (p6 == p6 && eqL l m))))))) = eqL l m) := Lib.hid (by simp)
  rw [HG.out]
  clear HG
  by_cases hne : n = n2
  case neg =>
    have hne2 : ((n : Int) == (n2 : Int)) = false := by simp; omega
    have hne3 : ((n : Int) != (n2 : Int)) = true := by simp; omega
    rw [eqL_len l m (by omega)]
    obtain ⟨a0, a1, a2, a3, a4, a5, a6, a7, d0, d1, d2, d3, d4, d5, d6, d7, BB⟩ := HB.out
    go_enter Tryd.func26, Tryd.ntmps26
    go_wp2
    go_ret
    exact ⟨rfl, BB⟩
  subst hne
  have z7 : ((n : Int) != (n : Int)) = false := by simp
  obtain ⟨a0, a1, a2, a3, a4, a5, a6, a7, d0, d1, d2, d3, d4, d5, d6, d7, BB⟩ := HB.out
  have HS : Hid (eqL l m = eqL (l.drop 0) (m.drop 0)) := Lib.hid rfl
  go_enter Tryd.func26, Tryd.ntmps26
  go_wp2
  clear a0 a1 a2 a3 a4 a5 a6 d0 d1 d2 d3 d4 d5 d6
  obtain ⟨U, hU⟩ : ∃ U, (w.alloc (.cells (prA ⟨p0, p1, p2, p3, p4, p5, p6, l⟩ A n c) 31)).alloc (.cells (prA ⟨p0, p1, p2, p3, p4, p5, p6, m⟩ A2 n c2) 31) = U := ⟨_, rfl⟩
  rw [hU] at a7 d7 BB ⊢
  clear hU HB
  go_loopw [5] (fun i wr => ∃ k : Nat, k ≤ n ∧ i = .int .i64 k ∧ eqL l m = eqL (l.drop k) (m.drop k) ∧ wr.cell? ⟨w.heap.size, 7, none⟩ = some (.slice A n c) ∧ wr.cell? ⟨w.heap.size + 1, 7, none⟩ = some (.slice A2 n c2) ∧ Below w.heap.size w wr) (fun i _ => n - (intOf i).toNat)
  case atStart => exact ⟨0, Nat.zero_le _, rfl, HS.out, a7, d7, BB⟩
  case round =>
    clear a7 d7 BB
    obtain ⟨k, hk, rfl, hs, a7, d7, BB⟩ := hrel
    rename World => wr
    by_cases hlt : k < n
    · obtain ⟨b1, o1, x, rfl, l1, q1, hx⟩ := (K1.out.below BB).at_ hlt
      obtain ⟨b2, o2, y, rfl, l2, q2, hy⟩ := (K2.out.below BB).at_ hlt
      have Ein_1 : wr.rangeAt b1 (o1 + k * 6) [.int .i64 x.o, .int .i64 x.d, .int .i64 x.a, .int .i64 x.b, .int .i64 x.c, .int .i64 x.i] := q1
      have Ein_2 : wr.rangeAt b2 (o2 + k * 6) [.int .i64 y.o, .int .i64 y.d, .int .i64 y.a, .int .i64 y.b, .int .i64 y.c, .int .i64 y.i] := q2
      have EQ := eq6 x y
      have GU := guard6
      rw [eqL_on hx.out hy.out] at hs
      cases hq : eqI x y
      all_goals
        rw [hq] at EQ hs
        have HS2 := Lib.hid hs
        clear hs hq hx hy q1 q2 K1 K2 HS
        go_wp2_with fail
        have k_a7 := cell_regrown a7
        have k_d7 := cell_regrown d7
        refine wp_region_quiet_below (by kernel_rfl) (by kernel_rfl) ?_
        repeat (first | (go_big_quiet_want; refine quiet_eload _ _ rfl rk_in rfl (fun W hW => rangeAt_on Ein_1 (below_regrown' hW)) rfl ?_; go_simp; go_big_quiet_on) | (go_big_quiet_want; refine quiet_eload _ _ rfl rk_in rfl (fun W hW => rangeAt_on Ein_2 (below_regrown' hW)) rfl ?_; go_simp; go_big_quiet_on) | go_big_quiet_step ((first | fail)) | quiet_step ((first | fail)))
        refine wpQuiet_nil ?_
        intro W hw'
        have B := below_regrown' hw'
        clear hw' k_a7 k_d7
        replace BB := bon BB B
        replace a7 := cell_below B a7
        replace d7 := cell_below B d7
        replace Ein_1 := rangeAt_on Ein_1 B
        replace Ein_2 := rangeAt_on Ein_2 B
        go_wp2
      · go_ret
        exact ⟨ret_bool2 (by rw [HS2.out]; rfl), BB⟩
      · go_roundw
        case rel => exact ⟨k + 1, by omega, by go_num, by rw [HS2.out]; rfl, a7, d7, BB⟩
        case measure => simp [intOf]; omega
    · obtain rfl : k = n := by omega
      rw [List.drop_eq_nil_of_le (by omega), List.drop_eq_nil_of_le (by omega)] at hs
      have HS2 := Lib.hid hs
      clear hs HS
      go_wp2
      go_ret
      exact ⟨ret_bool2 (by rw [HS2.out]; rfl), BB⟩

end Go.Proofs.YtnhnbblplnhmlaaDoor
