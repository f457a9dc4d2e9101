/- edgesOf. -/
import Derived.Test.YtepammildggnmaaJ10
namespace Go.Proofs.Ytepammildggnmaa
open Go.RowKit Go.Sort Go.ChangeShapes Go.WideShapes
set_option linter.unusedVariables false

theorem ix0 (x y z : Int) (W : World) : (Instr.index 24 (.agg #[.int .i64 x, .int .i64 y, .int .i64 z]) (.int .i64 0)).run Try.prog W = .ok (.int .i64 x) W := by
  simp [Instr.index, run_underlying Try.underlying24, asIntOf, Try.sizeOf3, Try.isAgg3, part, go_sem]

theorem ix1 (x y z : Int) (W : World) : (Instr.index 24 (.agg #[.int .i64 x, .int .i64 y, .int .i64 z]) (.int .i64 1)).run Try.prog W = .ok (.int .i64 y) W := by
  simp [Instr.index, run_underlying Try.underlying24, asIntOf, Try.sizeOf3, Try.isAgg3, part, go_sem]

theorem ix2 (x y z : Int) (W : World) : (Instr.index 24 (.agg #[.int .i64 x, .int .i64 y, .int .i64 z]) (.int .i64 2)).run Try.prog W = .ok (.int .i64 z) W := by
  simp [Instr.index, run_underlying Try.underlying24, asIntOf, Try.sizeOf3, Try.isAgg3, part, go_sem]

/-- A guarded operation whose guard holds. -/
theorem wpList_ungd {P : Program} {ops : Array Oper} {Q : Exit → Act → World → Prop} {a : Act} {W : World} {rest : List Oper} {dst : Option Tmp} {op : Op} {ty : TypeId} {pos : String} {after : Array Edge} {g : Nat × Bool}
    (hw : Region.wanted { dst := dst, op := op, type := ty, pos := pos, after := after, guard := some g } (yielded ops a.tmps) = true)
    (h : wpList P ops Q ({ dst := dst, op := op, type := ty, pos := pos, after := after, guard := none } :: rest) a W) :
    wpList P ops Q ({ dst := dst, op := op, type := ty, pos := pos, after := after, guard := some g } :: rest) a W := by
  unfold wpList at h ⊢
  rw [if_pos hw]
  rw [if_pos (by simp [Region.wanted])] at h
  exact h

/-- The edges behind k corners. -/
def eac (x y z : Int) : Nat → List Ed
  | 0 => []
  | 1 => eadd [] x y
  | 2 => eadd (eadd [] x y) y z
  | _ => eadd (eadd (eadd [] x y) y z) z x

theorem eadd_len (es : List Ed) (a b : Int) : (eadd es a b).length ≤ es.length + 1 := by
  unfold eadd
  split
  · simp
  · omega

theorem eof_len (t : Tri) : (eof t).length ≤ 3 := by
  have h1 := eadd_len [] t.x t.y
  have h2 := eadd_len (eadd [] t.x t.y) t.y t.z
  have h3 := eadd_len (eadd (eadd [] t.x t.y) t.y t.z) t.z t.x
  unfold eof
  simp only [List.length_nil] at h1
  omega

set_option maxRecDepth 100000 in
set_option maxHeartbeats 4000000 in
theorem edgesOf_b (x y z : Int) (w : World) : Calls Try.prog 30 #[.agg #[.int .i64 x, .int .i64 y, .int .i64 z]] w (GivesD w (eof ⟨x, y, z⟩)) := by
  go_enter Try.func30, Try.ntmps30
  go_wp2_with (with_reducible refine eload3L triK (EBox.made w #[.int .i64 x, .int .i64 y, .int .i64 z] 24).1 ?_ ?_; focus rfl)
  have c0 := box_cell w #[.int .i64 x, .int .i64 y, .int .i64 z] 24 0 _ rfl
  have c1 := box_cell w #[.int .i64 x, .int .i64 y, .int .i64 z] 24 1 _ rfl
  have c2 := box_cell w #[.int .i64 x, .int .i64 y, .int .i64 z] 24 2 _ rfl
  have BB := box_below w #[.int .i64 x, .int .i64 y, .int .i64 z] 24
  generalize w.alloc (.cells #[.int .i64 x, .int .i64 y, .int .i64 z] 24) = W0 at *
  have HC : Hid (∀ W, Below W0.heap.size W0 W → W.cell? ⟨w.heap.size, 0, none⟩ = some (.int .i64 x) ∧ W.cell? ⟨w.heap.size, 1, none⟩ = some (.int .i64 y) ∧ W.cell? ⟨w.heap.size, 2, none⟩ = some (.int .i64 z)) := Lib.hid fun W B => ⟨cell_below B c0, cell_below B c1, cell_below B c2⟩
  have O0 := Lib.hid (OwnE.nil ed 2 W0 49)
  have B0 := Below.refl W0.heap.size W0
  have x0 := ix0 x y z
  have x1 := ix1 x y z
  have x2 := ix2 x y z
  clear c0 c1 c2
  go_loopw [3, 9] (fun s i wr => ∃ (k n c : Nat) (A : Option Addr), k ≤ 3 ∧ i = .int .i64 (k : Int) ∧ s = .slice A n c ∧ OwnD wr W0.heap.size A n c (eac x y z k) ∧ (n = 0 → A = none ∧ c = 0) ∧ n ≤ k ∧ Below W0.heap.size W0 wr) (fun _ i _ => 3 - (intOf i).toNat)
  case atStart => exact ⟨0, 0, 0, none, by omega, rfl, rfl, O0.out, fun _ => ⟨rfl, rfl⟩, by omega, B0⟩
  case round =>
    clear B0 O0
    obtain ⟨k, n, c, A, hk, rfl, rfl, own, hA, hnk, B0⟩ := hrel
    rename World => wr
    obtain ⟨c0, c1, c2⟩ := HC.out wr B0
    have OW := Lib.hid own
    have HA := Lib.hid hA
    clear own hA
    rcases (show k = 0 ∨ k = 1 ∨ k = 2 ∨ k = 3 by omega) with rfl | rfl | rfl | rfl
    · obtain ⟨es, hes⟩ : ∃ es, eac x y z 0 = es := ⟨_, rfl⟩
      have HS : Hid (eac x y z (0 + 1) = eadd es x y) := Lib.hid (by rw [← hes]; rfl)
      rw [hes] at OW
      clear hes
      by_cases heq : x = y
      · have HS1 : Hid (eac x y z (0 + 1) = es) := Lib.hid (by rw [HS.out]; unfold eadd; rw [if_neg (fun h => h.1 heq)])
        clear HS
        subst heq
        have BX := box_below wr #[.int .i64 x, .int .i64 x] 49
        have OW1 := Lib.hid (OW.out.on BX)
        have B1 := bon B0 BX
        clear OW B0 BX
        go_wp2_with (with_reducible refine estore2L edK ?_ ?_ ?_ ?_; focus rfl; focus rfl; focus rfl)
        go_roundw
        case rel => exact ⟨0 + 1, n, c, A, by omega, rfl, rfl, by rw [HS1.out]; exact OW1.out, HA.out, by omega, B1⟩
        case measure => decide
      · have hmk : mkE x y = ⟨(min x y), (max x y)⟩ := rfl
        have hne : (x != y) = true := by simpa using heq
        have BX := box_below wr #[.int .i64 (min x y), .int .i64 (max x y)] 49
        have VA : (wr.alloc (.cells #[.int .i64 (min x y), .int .i64 (max x y)] 49)).rangeAt wr.heap.size 0 [.int .i64 (min x y), .int .i64 (max x y)] := (EBox.made wr #[.int .i64 (min x y), .int .i64 (max x y)] 49).1
        have OW1 := Lib.hid (OW.out.on BX)
        have B1 := bon B0 BX
        have CT := fun W R => contains_b A n c es ⟨(min x y), (max x y)⟩ W R HA.out (by omega)
        by_cases hm : (⟨(min x y), (max x y)⟩ : Ed) ∈ es
        · have HS1 : Hid (eac x y z (0 + 1) = es) := Lib.hid (by rw [HS.out]; unfold eadd; rw [if_neg (fun h => h.2 (by rw [hmk]; exact hm))])
          rw [decide_eq_true hm] at CT
          have CT1 := Lib.hid CT
          clear HS OW B0 BX CT hm hmk
          go_wp2_with (first
            | ((with_reducible refine estore2L edK ?_ ?_ ?_ ?_); focus rfl; focus rfl; focus rfl)
            | ((refine wpList_ungd rfl ?_); (with_reducible refine eload2L edK VA ?_ ?_); focus rfl)
            | (go_at_call 36; (with_reducible refine (CT1.out _ (OW1.out.rd edEnc)).mono ?_); rintro _ W3 ⟨rfl, B⟩; have OW2 := Lib.hid (OW1.out.on B); replace B1 := bon B1 B; clear B))
          go_roundw
          case rel => exact ⟨0 + 1, n, c, A, by omega, rfl, rfl, by rw [HS1.out]; exact OW2.out, HA.out, by omega, B1⟩
          case measure => decide
        · have HS1 : Hid (eac x y z (0 + 1) = es ++ [⟨(min x y), (max x y)⟩]) := Lib.hid (by rw [HS.out]; unfold eadd; rw [hmk, if_pos ⟨heq, hm⟩])
          rw [decide_eq_false hm] at CT
          have CT1 := Lib.hid CT
          clear HS OW B0 BX CT hm hmk
          go_wp2_with (first
            | ((with_reducible refine estore2L edK ?_ ?_ ?_ ?_); focus rfl; focus rfl; focus rfl)
            | ((with_reducible refine eload2L edK VA ?_ ?_); focus rfl)
            | ((refine wpList_ungd rfl ?_); (with_reducible refine eload2L edK VA ?_ ?_); focus rfl)
            | (go_at_call 36; (with_reducible refine (CT1.out _ (OW1.out.rd edEnc)).mono ?_); rintro _ W3 ⟨rfl, B⟩; have OW2 := Lib.hid (OW1.out.on B); replace VA := rangeAt_on VA B; replace B1 := bon B1 B; clear B)
            | (refine app1Z _ rfl _ _ _ rfl edEnc elEds OW2.out rfl ⟨(min x y), (max x y)⟩ rfl rfl (by simp) (by simp only [maxLen]; omega) (by omega) ?_; intro A7 n7 c7 W7 own7 B7; replace B1 := B1.trans B7; have OW7 := Lib.hid own7; have H7 : Hid (n7 = n + 1) := Lib.hid (by have h9 := own7.len; rw [List.length_append, OW2.out.len] at h9; exact h9.symm); clear own7 B7))
          go_roundw
          case rel => exact ⟨0 + 1, n7, c7, A7, by omega, rfl, rfl, by rw [HS1.out]; exact OW7.out, fun h => absurd h (by have := H7.out; omega), by have := H7.out; omega, B1⟩
          case measure => decide
    · obtain ⟨es, hes⟩ : ∃ es, eac x y z 1 = es := ⟨_, rfl⟩
      have HS : Hid (eac x y z (1 + 1) = eadd es y z) := Lib.hid (by rw [← hes]; rfl)
      rw [hes] at OW
      clear hes
      by_cases heq : y = z
      · have HS1 : Hid (eac x y z (1 + 1) = es) := Lib.hid (by rw [HS.out]; unfold eadd; rw [if_neg (fun h => h.1 heq)])
        clear HS
        subst heq
        have BX := box_below wr #[.int .i64 y, .int .i64 y] 49
        have OW1 := Lib.hid (OW.out.on BX)
        have B1 := bon B0 BX
        clear OW B0 BX
        go_wp2_with (with_reducible refine estore2L edK ?_ ?_ ?_ ?_; focus rfl; focus rfl; focus rfl)
        go_roundw
        case rel => exact ⟨1 + 1, n, c, A, by omega, rfl, rfl, by rw [HS1.out]; exact OW1.out, HA.out, by omega, B1⟩
        case measure => decide
      · have hmk : mkE y z = ⟨(min y z), (max y z)⟩ := rfl
        have hne : (y != z) = true := by simpa using heq
        have BX := box_below wr #[.int .i64 (min y z), .int .i64 (max y z)] 49
        have VA : (wr.alloc (.cells #[.int .i64 (min y z), .int .i64 (max y z)] 49)).rangeAt wr.heap.size 0 [.int .i64 (min y z), .int .i64 (max y z)] := (EBox.made wr #[.int .i64 (min y z), .int .i64 (max y z)] 49).1
        have OW1 := Lib.hid (OW.out.on BX)
        have B1 := bon B0 BX
        have CT := fun W R => contains_b A n c es ⟨(min y z), (max y z)⟩ W R HA.out (by omega)
        by_cases hm : (⟨(min y z), (max y z)⟩ : Ed) ∈ es
        · have HS1 : Hid (eac x y z (1 + 1) = es) := Lib.hid (by rw [HS.out]; unfold eadd; rw [if_neg (fun h => h.2 (by rw [hmk]; exact hm))])
          rw [decide_eq_true hm] at CT
          have CT1 := Lib.hid CT
          clear HS OW B0 BX CT hm hmk
          go_wp2_with (first
            | ((with_reducible refine estore2L edK ?_ ?_ ?_ ?_); focus rfl; focus rfl; focus rfl)
            | ((refine wpList_ungd rfl ?_); (with_reducible refine eload2L edK VA ?_ ?_); focus rfl)
            | (go_at_call 36; (with_reducible refine (CT1.out _ (OW1.out.rd edEnc)).mono ?_); rintro _ W3 ⟨rfl, B⟩; have OW2 := Lib.hid (OW1.out.on B); replace B1 := bon B1 B; clear B))
          go_roundw
          case rel => exact ⟨1 + 1, n, c, A, by omega, rfl, rfl, by rw [HS1.out]; exact OW2.out, HA.out, by omega, B1⟩
          case measure => decide
        · have HS1 : Hid (eac x y z (1 + 1) = es ++ [⟨(min y z), (max y z)⟩]) := Lib.hid (by rw [HS.out]; unfold eadd; rw [hmk, if_pos ⟨heq, hm⟩])
          rw [decide_eq_false hm] at CT
          have CT1 := Lib.hid CT
          clear HS OW B0 BX CT hm hmk
          go_wp2_with (first
            | ((with_reducible refine estore2L edK ?_ ?_ ?_ ?_); focus rfl; focus rfl; focus rfl)
            | ((with_reducible refine eload2L edK VA ?_ ?_); focus rfl)
            | ((refine wpList_ungd rfl ?_); (with_reducible refine eload2L edK VA ?_ ?_); focus rfl)
            | (go_at_call 36; (with_reducible refine (CT1.out _ (OW1.out.rd edEnc)).mono ?_); rintro _ W3 ⟨rfl, B⟩; have OW2 := Lib.hid (OW1.out.on B); replace VA := rangeAt_on VA B; replace B1 := bon B1 B; clear B)
            | (refine app1Z _ rfl _ _ _ rfl edEnc elEds OW2.out rfl ⟨(min y z), (max y z)⟩ rfl rfl (by simp) (by simp only [maxLen]; omega) (by omega) ?_; intro A7 n7 c7 W7 own7 B7; replace B1 := B1.trans B7; have OW7 := Lib.hid own7; have H7 : Hid (n7 = n + 1) := Lib.hid (by have h9 := own7.len; rw [List.length_append, OW2.out.len] at h9; exact h9.symm); clear own7 B7))
          go_roundw
          case rel => exact ⟨1 + 1, n7, c7, A7, by omega, rfl, rfl, by rw [HS1.out]; exact OW7.out, fun h => absurd h (by have := H7.out; omega), by have := H7.out; omega, B1⟩
          case measure => decide
    · obtain ⟨es, hes⟩ : ∃ es, eac x y z 2 = es := ⟨_, rfl⟩
      have HS : Hid (eac x y z (2 + 1) = eadd es z x) := Lib.hid (by rw [← hes]; rfl)
      rw [hes] at OW
      clear hes
      by_cases heq : z = x
      · have HS1 : Hid (eac x y z (2 + 1) = es) := Lib.hid (by rw [HS.out]; unfold eadd; rw [if_neg (fun h => h.1 heq)])
        clear HS
        subst heq
        have BX := box_below wr #[.int .i64 z, .int .i64 z] 49
        have OW1 := Lib.hid (OW.out.on BX)
        have B1 := bon B0 BX
        clear OW B0 BX
        go_wp2_with (with_reducible refine estore2L edK ?_ ?_ ?_ ?_; focus rfl; focus rfl; focus rfl)
        go_roundw
        case rel => exact ⟨2 + 1, n, c, A, by omega, rfl, rfl, by rw [HS1.out]; exact OW1.out, HA.out, by omega, B1⟩
        case measure => decide
      · have hmk : mkE z x = ⟨(min z x), (max z x)⟩ := rfl
        have hne : (z != x) = true := by simpa using heq
        have BX := box_below wr #[.int .i64 (min z x), .int .i64 (max z x)] 49
        have VA : (wr.alloc (.cells #[.int .i64 (min z x), .int .i64 (max z x)] 49)).rangeAt wr.heap.size 0 [.int .i64 (min z x), .int .i64 (max z x)] := (EBox.made wr #[.int .i64 (min z x), .int .i64 (max z x)] 49).1
        have OW1 := Lib.hid (OW.out.on BX)
        have B1 := bon B0 BX
        have CT := fun W R => contains_b A n c es ⟨(min z x), (max z x)⟩ W R HA.out (by omega)
        by_cases hm : (⟨(min z x), (max z x)⟩ : Ed) ∈ es
        · have HS1 : Hid (eac x y z (2 + 1) = es) := Lib.hid (by rw [HS.out]; unfold eadd; rw [if_neg (fun h => h.2 (by rw [hmk]; exact hm))])
          rw [decide_eq_true hm] at CT
          have CT1 := Lib.hid CT
          clear HS OW B0 BX CT hm hmk
          go_wp2_with (first
            | ((with_reducible refine estore2L edK ?_ ?_ ?_ ?_); focus rfl; focus rfl; focus rfl)
            | ((refine wpList_ungd rfl ?_); (with_reducible refine eload2L edK VA ?_ ?_); focus rfl)
            | (go_at_call 36; (with_reducible refine (CT1.out _ (OW1.out.rd edEnc)).mono ?_); rintro _ W3 ⟨rfl, B⟩; have OW2 := Lib.hid (OW1.out.on B); replace B1 := bon B1 B; clear B))
          go_roundw
          case rel => exact ⟨2 + 1, n, c, A, by omega, rfl, rfl, by rw [HS1.out]; exact OW2.out, HA.out, by omega, B1⟩
          case measure => decide
        · have HS1 : Hid (eac x y z (2 + 1) = es ++ [⟨(min z x), (max z x)⟩]) := Lib.hid (by rw [HS.out]; unfold eadd; rw [hmk, if_pos ⟨heq, hm⟩])
          rw [decide_eq_false hm] at CT
          have CT1 := Lib.hid CT
          clear HS OW B0 BX CT hm hmk
          go_wp2_with (first
            | ((with_reducible refine estore2L edK ?_ ?_ ?_ ?_); focus rfl; focus rfl; focus rfl)
            | ((with_reducible refine eload2L edK VA ?_ ?_); focus rfl)
            | ((refine wpList_ungd rfl ?_); (with_reducible refine eload2L edK VA ?_ ?_); focus rfl)
            | (go_at_call 36; (with_reducible refine (CT1.out _ (OW1.out.rd edEnc)).mono ?_); rintro _ W3 ⟨rfl, B⟩; have OW2 := Lib.hid (OW1.out.on B); replace VA := rangeAt_on VA B; replace B1 := bon B1 B; clear B)
            | (refine app1Z _ rfl _ _ _ rfl edEnc elEds OW2.out rfl ⟨(min z x), (max z x)⟩ rfl rfl (by simp) (by simp only [maxLen]; omega) (by omega) ?_; intro A7 n7 c7 W7 own7 B7; replace B1 := B1.trans B7; have OW7 := Lib.hid own7; have H7 : Hid (n7 = n + 1) := Lib.hid (by have h9 := own7.len; rw [List.length_append, OW2.out.len] at h9; exact h9.symm); clear own7 B7))
          go_roundw
          case rel => exact ⟨2 + 1, n7, c7, A7, by omega, rfl, rfl, by rw [HS1.out]; exact OW7.out, fun h => absurd h (by have := H7.out; omega), by have := H7.out; omega, B1⟩
          case measure => decide
    · replace BB := bon BB B0
      have KR : Hid (RdD wr wr.heap.size A n (eof ⟨x, y, z⟩)) := Lib.hid (OW.out.rd edEnc)
      clear OW B0 HA
      go_wp2
      go_ret
      exact ⟨A, n, c, rfl, KR.out, BB⟩

end Go.Proofs.Ytepammildggnmaa
