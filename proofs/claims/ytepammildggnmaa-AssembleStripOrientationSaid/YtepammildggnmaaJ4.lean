/- Same, SameRuns of the reference; the example; the walks of AssembleTriangles, AssembleRuns. -/
import Derived.Test.YtepammildggnmaaJ3
import Derived.Test.YtepammildggnmaaGrow
import Derived.ChangeKeysEq
namespace Go.Proofs.Ytepammildggnmaa
open Go.RowKit Go.Sort Go.ChangeShapes Go.WideShapes
set_option linter.unusedVariables false

theorem guard3 : Try.prog.eqGuardType Try.prog.depth 24 = false := by kernel_rfl

theorem cellsI : Try.prog.cellsOf 3 = 1 := by kernel_rfl

theorem infoI : ∃ i, Try.prog.info? 3 = some i := Option.isSome_iff_exists.1 (by kernel_rfl)

theorem eq3 (a b c d e f : Int) (w : World) : (Op.equalIn 10000 24 (.agg #[.int .i64 a, .int .i64 b, .int .i64 c]) (.agg #[.int .i64 d, .int .i64 e, .int .i64 f])).run Try.prog w = .ok (a == d && b == e && c == f) w := by
  obtain ⟨i, hi⟩ := infoI
  rw [run_equalIn_array w 9999 _ _ Try.underlying24 hi]
  by_cases h1 : a = d <;> by_cases h2 : b = e <;> by_cases h3 : c = f <;> simp [show List.range 3 = [0, 1, 2] from rfl, Op.eqItems, go_sem, cellsI, h1, h2, h3]

theorem hid_some' {α : Type} {l : List α} {k : Nat} {x y : α} (h : Hid (l[k]? = some x)) (g : Hid (l[k]? = some y)) : y = x := by
  have := h.out.symm.trans g.out
  injection this with this
  exact this.symm

set_option maxRecDepth 100000 in
theorem same_b (A A2 : Option Addr) (n n2 c c2 : Nat) (ts : List Tri) (w : World) (R1 : RdT w w.heap.size A n ts) (R2 : RdT w w.heap.size A2 n2 ts) (hn : n ≤ 9223372036854775807) :
    Calls Try.prog 12 #[.slice A n c, .slice A2 n2 c2] w fun e w' => e = .returned (.bool true) ∧ Below w.heap.size w w' := by
  obtain rfl : n2 = n := by rw [← R1.len, ← R2.len]
  have K1 := Lib.hid R1
  have K2 := Lib.hid R2
  clear R1 R2
  go_enter Try.func12, Try.ntmps12
  go_wp2
  go_loopw [5] (fun i wr => ∃ k : Nat, k ≤ n2 ∧ i = .int .i64 k ∧ Below w.heap.size w wr) (fun i _ => n2 - (intOf i).toNat)
  case atStart => exact ⟨0, Nat.zero_le _, rfl, Below.refl _ _⟩
  case round =>
    obtain ⟨k, hk, rfl, BB⟩ := hrel
    rename World => wr
    by_cases hlt : k < n2
    · obtain ⟨b1, o1, ⟨x, y, z⟩, rfl, l1, q1, hx⟩ := (K1.out.below BB).at_ hlt
      obtain ⟨b2, o2, T2, rfl, l2, q2, hy⟩ := (K2.out.below BB).at_ hlt
      obtain rfl : T2 = ⟨x, y, z⟩ := hid_some' hx hy
      have r1 : wr.rangeAt b1 (o1 + k * 3) [.int .i64 x, .int .i64 y, .int .i64 z] := q1
      have r2 : wr.rangeAt b2 (o2 + k * 3) [.int .i64 x, .int .i64 y, .int .i64 z] := q2
      have EQ := eq3 x y z x y z
      simp only [beq_self_eq_true, Bool.and_self] at EQ
      have GU := guard3
      clear hx hy q1 q2 K1 K2
      go_wp2_with fail
      refine wp_region_quiet_below (by kernel_rfl) (by kernel_rfl) ?_
      repeat (first
        | (go_big_quiet_want; refine quiet_eload _ _ rfl triK rfl (fun W hW => rangeAt_on r1 (below_regrown' hW)) rfl ?_; go_simp; go_big_quiet_on)
        | (go_big_quiet_want; refine quiet_eload _ _ rfl triK rfl (fun W hW => rangeAt_on r2 (below_regrown' hW)) rfl ?_; go_simp; go_big_quiet_on)
        | go_big_quiet_step (fail) | quiet_step (fail))
      refine wpQuiet_nil ?_
      intro W hw'
      have B := below_regrown' hw'
      clear hw'
      replace BB := bon BB B
      go_wp2
      go_roundw
      case rel => exact ⟨k + 1, by omega, by go_num, BB⟩
      case measure => simp [intOf]; omega
    · obtain rfl : k = n2 := by omega
      go_wp2
      go_ret
      exact ⟨rfl, BB⟩

set_option maxRecDepth 100000 in
set_option maxHeartbeats 1000000 in
theorem sameRuns_b (A A2 : Option Addr) (n n2 c c2 : Nat) (rs1 rs2 : List Rw) (w : World) (R1 : RdR w w.heap.size .i64 A n rs1) (R2 : RdR w w.heap.size .i64 A2 n2 rs2) (he : rs1.map (·.l) = rs2.map (·.l)) (hn : n ≤ 1152921504606846976) (hl : ∀ r ∈ rs1, r.n ≤ 1152921504606846976) :
    Calls Try.prog 20 #[.slice A n c, .slice A2 n2 c2] w fun e w' => e = .returned (.bool true) ∧ Below w.heap.size w w' := by
  obtain rfl : n2 = n := by rw [← R1.len, ← R2.len]; simpa using (congrArg List.length he).symm
  have K1 := Lib.hid R1
  have K2 := Lib.hid R2
  have HE := Lib.hid he
  have HL := Lib.hid hl
  clear R1 R2 he hl
  go_enter Try.func20, Try.ntmps20
  go_wp2
  go_loopw [5] (fun i wr => ∃ k : Nat, k ≤ n2 ∧ i = .int .i64 k ∧ Below w.heap.size w wr) (fun i _ => n2 - (intOf i).toNat)
  case atStart => exact ⟨0, Nat.zero_le _, rfl, Below.refl _ _⟩
  case round =>
    obtain ⟨k, hk, rfl, BB⟩ := hrel
    rename World => wr
    by_cases hlt : k < n2
    · obtain ⟨b1, o1, r, rfl, l1, c1, Q1, hx⟩ := (K1.out.below BB).at_ hlt
      obtain ⟨b2, o2, q, rfl, l2, c2, Q2, hy⟩ := (K2.out.below BB).at_ hlt
      have hlist : r.l = q.l := by
        have h1 : (rs1.map (·.l))[k]? = some r.l := by rw [List.getElem?_map, hx.out]; rfl
        have h2 : (rs2.map (·.l))[k]? = some q.l := by rw [List.getElem?_map, hy.out]; rfl
        rw [HE.out, h2] at h1
        injection h1 with h1
        exact h1.symm
      have hrn := HL.out r (List.mem_of_getElem? hx.out)
      have P1 := Lib.hid (show Rd w w.heap.size .i64 r.A r.n r.l from K1.out.2 r (List.mem_of_getElem? hx.out))
      have P2 := Lib.hid (show Rd w w.heap.size .i64 q.A q.n q.l from K2.out.2 q (List.mem_of_getElem? hy.out))
      have hqn : q.n = r.n := by rw [← P1.out.len, ← P2.out.len, hlist]
      obtain ⟨rA, rn, rc, rl⟩ := r
      obtain ⟨qA, qn, qc, ql⟩ := q
      simp only at hlist hrn P1 P2 hqn c1 c2
      subst hlist
      subst hqn
      have C1 : Hid (∀ W, Below w.heap.size w W → W.cell? ⟨b1, o1 + k, none⟩ = some (.slice rA qn rc)) := Lib.hid fun W BW => (BW.cell (p := ⟨b1, o1 + k, none⟩) l1).trans ((BB.cell (p := ⟨b1, o1 + k, none⟩) l1).symm.trans c1)
      have C2 : Hid (∀ W, Below w.heap.size w W → W.cell? ⟨b2, o2 + k, none⟩ = some (.slice qA qn qc)) := Lib.hid fun W BW => (BW.cell (p := ⟨b2, o2 + k, none⟩) l2).trans ((BB.cell (p := ⟨b2, o2 + k, none⟩) l2).symm.trans c2)
      clear hx hy Q1 Q2
      go_wp2_with fail
      have k_c1 := cell_regrown c1
      have k_c2 := cell_regrown c2
      refine wp_region_quiet_below (by kernel_rfl) (by kernel_rfl) ?_
      repeat (first | go_big_quiet_step ((first | fail)) | quiet_step ((first | fail)))
      refine wpQuiet_nil ?_
      intro W hw'
      have B := below_regrown' hw'
      clear hw' k_c1 k_c2
      replace BB := bon BB B
      replace c1 := cell_below B c1
      replace c2 := cell_below B c2
      go_wp2_with fail
      clear c1 c2 B
      go_loopw [6] (fun i w2 => ∃ m : Nat, m ≤ qn ∧ i = .int .i64 m ∧ Below w.heap.size w w2) (fun i _ => qn - (intOf i).toNat)
      case atStart => exact ⟨0, Nat.zero_le _, rfl, BB⟩
      case round =>
        clear BB
        obtain ⟨m, hm, rfl, BB⟩ := hrel
        rename World => w2
        have c1 := C1.out _ BB
        have c2 := C2.out _ BB
        by_cases hlm : m < qn
        · obtain ⟨b3, o3, x, rfl, c3, x0, x1, hx⟩ := (P1.out.below BB).int hlm
          obtain ⟨b4, o4, y, rfl, c4, _, _, hy⟩ := (P2.out.below BB).int hlm
          obtain rfl : y = x := hid_some' hx hy
          clear hx hy
          go_wp2_with fail
          have k_c1 := cell_regrown c1
          have k_c2 := cell_regrown c2
          have k_c3 := cell_regrown c3
          have k_c4 := cell_regrown c4
          refine wp_region_quiet_below (by kernel_rfl) (by kernel_rfl) ?_
          repeat (first | go_big_quiet_step ((first | fail)) | quiet_step ((first | fail)))
          refine wpQuiet_nil ?_
          intro W hw'
          have B := below_regrown' hw'
          clear hw' k_c1 k_c2 k_c3 k_c4
          replace BB := bon BB B
          replace c1 := cell_below B c1
          replace c2 := cell_below B c2
          replace c3 := cell_below B c3
          replace c4 := cell_below B c4
          go_wp2
          go_roundw
          case rel => exact ⟨m + 1, by omega, by go_num, BB⟩
          case measure => simp [intOf]; omega
        · obtain rfl : m = qn := by omega
          go_wp2
          go_roundw
          case rel => exact ⟨k + 1, by omega, by go_num, BB⟩
          case measure => simp [intOf]; omega
    · obtain rfl : k = n2 := by omega
      go_wp2
      go_ret
      exact ⟨rfl, BB⟩

theorem ex_strip : tra 2 (rns [0, 1, 2, 3]) = [⟨0, 1, 2⟩, ⟨1, 3, 2⟩] := by decide

theorem ex_fan : tra 3 (rns [4, 5, 6, 7]) = [⟨4, 5, 6⟩, ⟨4, 6, 7⟩] := by decide

theorem rd_lit (W : World) (e : TypeId) (k : IntKind) (l : List Int) (hr : ∀ x ∈ l, k.min ≤ x ∧ x ≤ k.max) :
    Rd (W.alloc (.cells (l.map (Value.int k)).toArray e)) (W.alloc (.cells (l.map (Value.int k)).toArray e)).heap.size k (some ⟨W.heap.size, 0, none⟩) l.length l :=
  ⟨rfl, hr, fun _ => ⟨W.heap.size, 0, rfl, by simp, fun j x hx => by rw [Nat.zero_add]; exact box_cell W _ e j _ (by simp [hx])⟩⟩

theorem rdT_lit (W : World) (e : TypeId) (a b c d f g : Int) :
    RdT (W.alloc (.cells #[.int .i64 a, .int .i64 b, .int .i64 c, .int .i64 d, .int .i64 f, .int .i64 g] e)) (W.alloc (.cells #[.int .i64 a, .int .i64 b, .int .i64 c, .int .i64 d, .int .i64 f, .int .i64 g] e)).heap.size (some ⟨W.heap.size, 0, none⟩) 2 [⟨a, b, c⟩, ⟨d, f, g⟩] := by
  refine ⟨rfl, fun _ => ⟨W.heap.size, 0, rfl, by simp, fun j x hx i v hv => ?_⟩⟩
  match j, hx with
  | 0, hx =>
    simp at hx
    subst hx
    match i, hv with
    | 0, hv => simp [tri] at hv; subst hv; exact box_cell W _ e 0 _ rfl
    | 1, hv => simp [tri] at hv; subst hv; exact box_cell W _ e 1 _ rfl
    | 2, hv => simp [tri] at hv; subst hv; exact box_cell W _ e 2 _ rfl
  | 1, hx =>
    simp at hx
    subst hx
    match i, hv with
    | 0, hv => simp [tri] at hv; subst hv; exact box_cell W _ e 3 _ rfl
    | 1, hv => simp [tri] at hv; subst hv; exact box_cell W _ e 4 _ rfl
    | 2, hv => simp [tri] at hv; subst hv; exact box_cell W _ e 5 _ rfl

set_option maxRecDepth 100000 in
set_option maxHeartbeats 1000000 in
theorem example_b (w : World) : Calls Try.prog 19 #[] w fun e w' => e = .returned (.bool true) ∧ Below w.heap.size w w' := by
  have K1 : Rd (w.alloc (.cells #[.int .i64 0, .int .i64 1, .int .i64 2, .int .i64 3] 3)) (w.alloc (.cells #[.int .i64 0, .int .i64 1, .int .i64 2, .int .i64 3] 3)).heap.size .i64 (some ⟨w.heap.size, 0, none⟩) 4 [0, 1, 2, 3] := rd_lit w 3 .i64 [0, 1, 2, 3] (by decide)
  have BB := box_below w #[.int .i64 0, .int .i64 1, .int .i64 2, .int .i64 3] 3
  have cs := fun A c W R => tris_b A 4 c [0, 1, 2, 3] 2 W R (by omega)
  have cf := fun A c W R => tris_b A 4 c [4, 5, 6, 7] 3 W R (by omega)
  rw [ex_strip] at cs
  rw [ex_fan] at cf
  have CS := Lib.hid cs
  have CF := Lib.hid cf
  have L4 : Hid (∀ W : World, Rd (W.alloc (.cells #[.int .i64 4, .int .i64 5, .int .i64 6, .int .i64 7] 3)) (W.alloc (.cells #[.int .i64 4, .int .i64 5, .int .i64 6, .int .i64 7] 3)).heap.size .i64 (some ⟨W.heap.size, 0, none⟩) 4 [4, 5, 6, 7]) := Lib.hid fun W => rd_lit W 3 .i64 [4, 5, 6, 7] (by decide)
  clear cs cf
  go_enter Try.func19, Try.ntmps19
  go_wp2_with (first
    | (go_at_call 13; (with_reducible refine (CS.out _ _ _ K1).mono ?_); rintro _ W1 ⟨A5, n5, d5, rfl, R5, B⟩; replace BB := bon BB B; clear B K1; obtain rfl : n5 = 2 := R5.len.symm)
    | (go_at_call 12; (with_reducible refine (same_b _ _ _ _ _ _ _ _ (R5.on (box_below _ _ _)) (rdT_lit _ _ 0 1 2 1 3 2) (by omega)).mono ?_); rintro _ W2 ⟨rfl, B⟩; replace B := bon (box_below _ _ _) B; replace BB := bon BB B; clear B R5)
    | (go_at_call 13; (with_reducible refine (CF.out _ _ _ (L4.out _)).mono ?_); rintro _ W3 ⟨A6, n6, d6, rfl, R6, B⟩; replace B := bon (box_below _ _ _) B; replace BB := bon BB B; clear B; obtain rfl : n6 = 2 := R6.len.symm)
    | (go_at_call 12; (with_reducible refine (same_b _ _ _ _ _ _ _ _ (R6.on (box_below _ _ _)) (rdT_lit _ _ 4 5 6 4 6 7) (by omega)).mono ?_); rintro _ W4 ⟨rfl, B⟩; replace B := bon (box_below _ _ _) B; replace BB := bon BB B; clear B R6))
  go_ret
  exact ⟨rfl, BB⟩

end Go.Proofs.Ytepammildggnmaa
