/- The walk of LexerComments. -/
import Derived.Test.YtapijdimajgflaaDoorZ29
import Derived.Test.YtapijdimajgflaaDoorZ22
namespace Go.Proofs.YtapijdimajgflaaDoor
open Go.RowKit Go.Sort Go.ChangeShapes Go.WideShapes
set_option linter.unusedVariables false

theorem no10_step {l : List Int} {k : Nat} {x : Int} (h : (10 : Int) ∉ l.take k) (hx : l[k]? = some x) (h10 : ¬ x = 10) : (10 : Int) ∉ l.take (k + 1) := by
  obtain ⟨hk, rfl⟩ := List.getElem?_eq_some_iff.1 hx
  rw [List.take_succ_eq_append_getElem hk, List.mem_append]
  rintro (q | q)
  · exact h q
  · simp at q
    exact h10 q.symm

theorem ers_at {T1 T2 : List Tk} (h : T1.map (fun x => (x.k, x.t, x.v)) = T2.map (fun x => (x.k, x.t, x.v))) {j : Nat} {x y : Tk} (hx : T1[j]? = some x) (hy : T2[j]? = some y) : y.k = x.k ∧ y.t = x.t ∧ y.v = x.v := by
  have := congrArg (fun l => l[j]?) h
  simp only [List.getElem?_map, hx, hy, Option.map_some, Option.some.injEq, Prod.mk.injEq] at this
  exact ⟨this.1.symm, this.2.1.symm, this.2.2.symm⟩

set_option maxRecDepth 100000 in
set_option maxHeartbeats 8000000 in
theorem comments_walk (a b c : ByteArray) (w : World) (LL : Lay6 w) (ha : a.size ≤ 140737488351232) (hb : b.size ≤ 140737488351232) (hc : c.size ≤ 140737488351232) :
    Calls Tryd.prog 8 #[.string a, .string b, .string c] w fun e w' => e = .returned (.bool true) ∧ Below w.heap.size w w' := by
  have HL := Lib.hid LL
  by_cases hbig : 8000 < a.size + b.size + c.size
  · have hbi : (8000 : Int) < (a.size : Int) + (b.size : Int) + (c.size : Int) := by omega
    go_enter Tryd.func8, Tryd.ntmps8
    go_wp2_with (go_at_call 10; (refine (zexample_b _ HL.out).mono ?_); rintro _ W1 ⟨rfl, B⟩; have BX := Lib.hid B; clear B)
    go_ret
    exact ⟨rfl, BX.out⟩
  · have hbi : ¬ (8000 : Int) < (a.size : Int) + (b.size : Int) + (c.size : Int) := by omega
    have hsz : a.size + b.size + c.size ≤ 8000 := by omega
    clear hbig ha hb hc
    go_enter Tryd.func8, Tryd.ntmps8
    go_wp2_with fail
    go_loopw [27] (fun i wr => ∃ k : Nat, i = .int .i64 (k : Int) ∧ k ≤ c.size ∧ (10 : Int) ∉ (strL c).take k ∧ w = wr) (fun i _ => c.size - (intOf i).toNat)
    case atStart => exact ⟨0, rfl, Nat.zero_le _, by simp, by simp⟩
    case round =>
      obtain ⟨k, rfl, hk, hno, rfl⟩ := hrel
      by_cases hlt : k < c.size
      · have hlti : (k : Int) < (c.size : Int) := by omega
        by_cases h10 : ((c[k]).toNat : Int) = 10
        · have e1 : (((c[k]).toNat : Int) == 10) = true := by simpa using h10
          clear hno h10
          go_wp2_with (go_at_call 10; (refine (zexample_b _ HL.out).mono ?_); rintro _ W1 ⟨rfl, B⟩; have BX := Lib.hid B; clear B)
          go_ret
          exact ⟨rfl, BX.out⟩
        · have e1 : (((c[k]).toNat : Int) == 10) = false := by simpa using h10
          have HNO := Lib.hid (no10_step hno (strL_at c k hlt) h10)
          clear hno h10
          go_wp2_with fail
          go_roundw
          case rel => exact ⟨k + 1, by go_num, by omega, HNO.out, by simp⟩
          case measure => simp [intOf] <;> omega
      · obtain rfl : k = c.size := by omega
        have hlti : ¬ (c.size : Int) < (c.size : Int) := by omega
        rw [show c.size = (strL c).length from (strL_len c).symm, List.take_length] at hno
        have BB := Below.refl w.heap.size w
        have s1 : strL (a ++ ⟨#[10]⟩ ++ b) = strL a ++ 10 :: strL b := by
          rw [strL_append, strL_append, List.append_assoc]; rfl
        have s2 : strL (a ++ ⟨#[10, 47, 47]⟩ ++ c ++ ⟨#[10]⟩ ++ b) = strL a ++ 10 :: (47 :: 47 :: (strL c ++ 10 :: strL b)) := by
          rw [strL_append, strL_append, strL_append, strL_append, List.append_assoc, List.append_assoc, List.append_assoc]; rfl
        have hz1 : (a ++ ⟨#[10]⟩ ++ b).size = a.size + 1 + b.size := by rw [ByteArray.size_append, ByteArray.size_append]; rfl
        have hz2 : (a ++ ⟨#[10, 47, 47]⟩ ++ c ++ ⟨#[10]⟩ ++ b).size = a.size + 3 + c.size + 1 + b.size := by rw [ByteArray.size_append, ByteArray.size_append, ByteArray.size_append, ByteArray.size_append]; rfl
        have hcm := lexv_comment (strL a) (strL b) (strL c) (strL_rng a) hno (by rw [← s2, strL_len, hz2]; omega)
        have c1 := fun W L => lex_b (a ++ ⟨#[10]⟩ ++ b) W L (by omega)
        have c2 := fun W L => lex_b (a ++ ⟨#[10, 47, 47]⟩ ++ c ++ ⟨#[10]⟩ ++ b) W L (by omega)
        have hn1 := lexv_len (strL (a ++ ⟨#[10]⟩ ++ b))
        rw [strL_len, hz1] at hn1
        rw [← s1, ← s2] at hcm
        obtain ⟨T1, l1, e1, hT1⟩ : ∃ T l e, lexv (strL (a ++ ⟨#[10]⟩ ++ b)) = (T, l, e) := ⟨_, _, _, rfl⟩
        obtain ⟨T2, l2, e2, hT2⟩ : ∃ T l e, lexv (strL (a ++ ⟨#[10, 47, 47]⟩ ++ c ++ ⟨#[10]⟩ ++ b)) = (T, l, e) := ⟨_, _, _, rfl⟩
        rw [hT1] at c1 hn1 hcm
        rw [hT2] at c2 hcm
        obtain ⟨hm, rfl⟩ := Prod.mk.inj hcm
        have hlen : T2.length = T1.length := by have := congrArg List.length hm; simpa using this.symm
        have hn2 : T1.length ≤ 9000 := by simp only at hn1; omega
        have C1 := Lib.hid c1
        have C2 := Lib.hid c2
        have HM : Hid (T1.map (fun x => (x.k, x.t, x.v)) = T2.map (fun x => (x.k, x.t, x.v))) := Lib.hid hm
        have HLE := Lib.hid hlen
        have g1 : (a ++ ⟨#[10]⟩).size = a.size + 1 := by rw [ByteArray.size_append]; rfl
        clear c1 c2 hcm hm hlen hn1 hT1 hT2 s1 s2 hno
        go_wp2_with (first
          | (go_at_call 9; (with_reducible refine (C1.out _ (HL.out.on BB)).mono ?_); rintro _ W1 ⟨A, n, cc, rfl, R, hcc, B⟩; have R1 := Lib.hid R; have HN : Hid (T1.length = n) := Lib.hid R.len; replace BB := bon BB B; clear B R)
          | (go_at_call 9; (with_reducible refine (C2.out _ (HL.out.on BB)).mono ?_); rintro _ W2 ⟨A2, n2, cc2, rfl, R, hcc2, B⟩; have R3 := Lib.hid R; have HN2 : n2 = n := (by have h9 : T2.length = n2 := R.len; have := HN.out; have := HLE.out; omega); subst HN2; have R4 := Lib.hid (R1.out.on B); replace BB := bon BB B; clear B R))
        rename World => W
        go_loopw [69] (fun i wr => ∃ j : Nat, i = .int .i64 (j : Int) ∧ j ≤ n2 ∧ Below W.heap.size W wr) (fun i _ => n2 - (intOf i).toNat)
        case atStart => exact ⟨0, rfl, Nat.zero_le _, Below.refl _ _⟩
        case round =>
          obtain ⟨j, rfl, hj, BR⟩ := hrel
          rename World => wr
          have hnb : n2 ≤ 9000 := by have := HN.out; omega
          have HBR := Lib.hid BR
          by_cases hlt : j < n2
          · obtain ⟨b1, off, x, rfl, -, hr, hx⟩ := (R4.out.on BR).at_ hlt
            obtain ⟨b2, off2, y, rfl, -, hr2, hy⟩ := (R3.out.on BR).at_ hlt
            obtain ⟨k1, k2, k3⟩ := ers_at HM.out hx.out hy.out
            have p0 : wr.cell? ⟨b1, off + j * 4, none⟩ = some (.int .i64 x.k) := hr 0 _ rfl
            have p1 : wr.cell? ⟨b1, off + j * 4 + 1, none⟩ = some (.string (strOfNums x.t)) := hr 1 _ rfl
            have p2 : wr.cell? ⟨b1, off + j * 4 + 2, none⟩ = some (.int .i64 x.v) := hr 2 _ rfl
            have q0 : wr.cell? ⟨b2, off2 + j * 4, none⟩ = some (.int .i64 y.k) := hr2 0 _ rfl
            have q1 : wr.cell? ⟨b2, off2 + j * 4 + 1, none⟩ = some (.string (strOfNums y.t)) := hr2 1 _ rfl
            have q2 : wr.cell? ⟨b2, off2 + j * 4 + 2, none⟩ = some (.int .i64 y.v) := hr2 2 _ rfl
            rw [k1] at q0
            rw [k2] at q1
            rw [k3] at q2
            obtain ⟨tt, htt⟩ : ∃ tt, strOfNums x.t = tt := ⟨_, rfl⟩
            rw [htt] at p1 q1
            have BX := Lib.hid BB
            replace BB := Below.refl wr.heap.size wr
            have hlti2 : (j : Int) < (n2 : Int) := by omega
            clear hr hr2 hx hy htt BR k1 k2 k3
            go_wp2_with fail
            have k_p0 := cell_regrown p0
            have k_p1 := cell_regrown p1
            have k_p2 := cell_regrown p2
            have k_q0 := cell_regrown q0
            have k_q1 := cell_regrown q1
            have k_q2 := cell_regrown q2
            refine wp_region_quiet_below (by kernel_rfl) (by kernel_rfl) ?_
            repeat (first | go_big_quiet_step ((first | fail)) | quiet_step ((first | fail)))
            refine wpQuiet_nil ?_
            intro W hw'
            have B := below_regrown' hw'
            clear hw' k_p0 k_p1 k_p2 k_q0 k_q1 k_q2
            replace BB := bon BB B
            replace p0 := cell_below B p0
            replace p1 := cell_below B p1
            replace p2 := cell_below B p2
            replace q0 := cell_below B q0
            replace q1 := cell_below B q1
            replace q2 := cell_below B q2
            go_wp2_with fail
            go_roundw
            case rel => exact ⟨j + 1, by go_num, by omega, HBR.out.trans (BB.mono HBR.out.size)⟩
            case measure => simp [intOf] <;> omega
          · obtain rfl : j = n2 := by omega
            have BX := Lib.hid (bon BB BR)
            have hlti2 : ¬ (j : Int) < (j : Int) := by omega
            clear BB BR
            go_wp2_with (go_at_call 10; (refine (zexample_b _ (HL.out.on BX.out)).mono ?_); rintro _ W9 ⟨rfl, B⟩; have B9 := Lib.hid (bon BX.out B); clear B)
            go_ret
            exact ⟨rfl, B9.out⟩

end Go.Proofs.YtapijdimajgflaaDoor
