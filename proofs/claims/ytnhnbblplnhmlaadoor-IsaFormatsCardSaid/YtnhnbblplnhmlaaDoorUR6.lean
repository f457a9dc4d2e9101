/- The reference's Line and Format. -/
import Derived.Test.YtnhnbblplnhmlaaDoorU9
namespace Go.Proofs.YtnhnbblplnhmlaaDoor
set_option linter.unusedSimpArgs false
open Go.RowKit Go.Sort Go.ChangeShapes Go.WideShapes
set_option linter.unusedVariables false

theorem strL_fiS (n : Int) : strL (fiS n) = fint n := by rw [fiS, strL_of (fint_rng n)]
theorem strL_frS (n : Int) : strL (frS n) = 114 :: fint n := by rw [frS, strL_append, strL_fiS]; rfl

/-- Registers behind one another. -/
def rtx (l : List Int) : List Int := l.flatMap fun n => 32 :: 114 :: fint n

theorem jn_reg : ∀ l : List Int, jn true (wdl false l) = rtx l
  | [] => rfl
  | n :: r => by
    rw [wdl, if_neg (by simp), jn, jn_reg r, if_pos rfl, strL_frS]
    simp [rtx]
theorem jn_imm (i : Int) : ∀ l : List Int, jn true (wdl true (l ++ [i])) = rtx l ++ 32 :: fint i
  | [] => by
    rw [List.nil_append, wdl, if_pos ⟨rfl, rfl⟩, wdl, jn, jn, if_pos rfl, strL_fiS]
    simp [rtx]
  | n :: r => by
    rw [List.cons_append, wdl, if_neg (by simp), jn, jn_imm i r, if_pos rfl, strL_frS]
    simp [rtx]

theorem rtx_app (l m : List Int) : rtx (l ++ m) = rtx l ++ rtx m := List.flatMap_append ..

theorem wds_eq (x : In) (d m : Bool) (hd : fD (cl x.o) = d) (hm : fI (cl x.o) = m) : jn false (wds x) = strL (namS x.o) ++ (if d = true then 32 :: 114 :: fint x.d else []) ++ rtx (uses x) ++ (if m = true then 32 :: fint x.i else []) := by
  have e : nums x = (if d = true then [x.d] else []) ++ uses x ++ (if m = true then [x.i] else []) := by rw [nums, hd, hm]
  rw [wds, jn, if_neg (by decide), List.nil_append, e, hm]
  cases m
  · rw [show ((if false = true then [x.i] else []) : List Int) = [] from rfl, show ((if false = true then 32 :: fint x.i else []) : List Int) = [] from rfl, List.append_nil, List.append_nil, jn_reg, rtx_app]
    cases d <;> simp [rtx]
  · rw [show ((if true = true then [x.i] else []) : List Int) = [x.i] from rfl, show ((if true = true then 32 :: fint x.i else []) : List Int) = 32 :: fint x.i from rfl, jn_imm, rtx_app]
    cases d <;> simp [rtx]

theorem rtx_on {l : List Int} {k : Nat} {y : Int} (h : l[k]? = some y) : rtx (l.take (k + 1)) = rtx (l.take k) ++ 32 :: 114 :: fint y := by
  obtain ⟨hk, rfl⟩ := List.getElem?_eq_some_iff.1 h
  rw [List.take_succ_eq_append_getElem hk, rtx_app]
  simp [rtx]

theorem rtx_off {l : List Int} {k : Nat} {y : Int} (h : l[k]? = some y) : rtx (l.drop k) = 32 :: 114 :: (fint y ++ rtx (l.drop (k + 1))) := by
  obtain ⟨hk, rfl⟩ := List.getElem?_eq_some_iff.1 h
  rw [List.drop_eq_getElem_cons hk, rtx, List.flatMap_cons]
  rfl

theorem cat_size (a b : ByteArray) : (a ++ b).size = a.size + b.size := by simp

set_option maxRecDepth 100000 in
set_option maxHeartbeats 4000000 in
theorem rline_b (x : In) (w : World) (hw : x.wf) : Calls Tryd.prog 38 #[.agg (inA x)] w fun e w' => e = .returned (.string (linS x)) ∧ Below w.heap.size w w' := by
  obtain ⟨c0, c1, c2, c3, c4, c5, BB⟩ := boxI w x 40
  have E0 := rngI w x 40
  have CV := Lib.hid (fun W => rvalid22_q x.o W)
  unfold linS
  cases hok : okO x.o
  · rw [hok] at CV
    go_enter Tryd.func38, Tryd.ntmps38
    go_wp2_with (go_at_call 10; (with_reducible refine (CV.out _).mono ?_); rintro _ _ ⟨rfl, rfl⟩)
    go_ret
    exact ⟨rfl, BB⟩
  · rw [hok] at CV
    rw [if_pos rfl]
    have CO := Lib.hid (fun W => roperands_q x.o W)
    have CN := Lib.hid (fun W => rname_b x.o W)
    have CU := Lib.hid (fun W => ruses_b x W hw)
    have CD := Lib.hid (fun W => rformatInt_b x.d W hw.2.1.1 hw.2.1.2)
    have CM := Lib.hid (fun W => rformatInt_b x.i W hw.2.2.2.2.2.1 hw.2.2.2.2.2.2)
    have HU := Lib.hid (uses_mem hw)
    have hul := uses_len x
    have hns := namS_size x.o
    have hzd := fiS_size x.d hw.2.1.1 hw.2.1.2
    have hzi := fiS_size x.i hw.2.2.2.2.2.1 hw.2.2.2.2.2.2
    have hfd := strL_fiS x.d
    have hfi := strL_fiS x.i
    have HQ := wds_eq x
    simp only [flg] at CO
    obtain ⟨d, hd⟩ : ∃ d, fD (cl x.o) = d := ⟨_, rfl⟩
    obtain ⟨m, hm⟩ : ∃ m, fI (cl x.o) = m := ⟨_, rfl⟩
    have HE := HQ d m hd hm
    rw [hd, hm] at CO
    obtain ⟨U, hU⟩ : ∃ U, uses x = U := ⟨_, rfl⟩
    rw [hU] at HE CU HU hul
    obtain ⟨nm, hnm⟩ : ∃ nm, namS x.o = nm := ⟨_, rfl⟩
    rw [hnm] at HE CN hns
    obtain ⟨zd, hzd2⟩ : ∃ zd, fiS x.d = zd := ⟨_, rfl⟩
    obtain ⟨zi, hzi2⟩ : ∃ zi, fiS x.i = zi := ⟨_, rfl⟩
    rw [hzd2] at hzd hfd
    rw [hzi2] at hzi hfi
    unfold fiS at hzd2 hzi2
    rw [hzd2] at CD
    rw [hzi2] at CM
    rw [← hfd, ← hfi] at HE
    obtain ⟨out, hout⟩ : ∃ out, strOfNums (jn false (wds x)) = out := ⟨_, rfl⟩
    have ho : strL out = jn false (wds x) := by rw [← hout, strL_of (jn_rng _ _)]
    rw [hout]
    rw [← ho] at HE
    obtain ⟨T, hT⟩ : ∃ T, (if m = true then 32 :: strL zi else []) = T := ⟨_, rfl⟩
    rw [hT] at HE
    have HO := Lib.hid HE
    have HT := Lib.hid hT
    clear hT HE ho hout hzd2 hzi2 hfd hfi hnm hU hd hm HQ hok
    cases d
    all_goals
      cases m
      all_goals
        go_enter Tryd.func38, Tryd.ntmps38
        go_wp2_with (first
          | (go_at_call 10; (with_reducible refine (CV.out _).mono ?_); rintro _ _ ⟨rfl, rfl⟩)
          | (go_at_call 8; (with_reducible refine (CO.out _).mono ?_); rintro _ _ ⟨rfl, rfl⟩)
          | (go_at_call 12; (with_reducible refine (CN.out _).mono ?_); rintro _ _ ⟨rfl, B⟩; replace c1 := cell_below B c1; replace c5 := cell_below B c5; replace E0 := rangeAt_on E0 B; replace BB := bon BB B; clear B)
          | (go_at_call 53; (with_reducible refine (CD.out _).mono ?_); rintro _ _ ⟨rfl, B⟩; replace c5 := cell_below B c5; replace E0 := rangeAt_on E0 B; replace BB := bon BB B; clear B)
          | (with_reducible refine iload E0 rfl ?_; go_simp)
          | (go_at_call 22; (with_reducible refine (CU.out _).mono ?_); rintro _ W2 ⟨A2, n2, d2, rfl, own2, B2⟩; replace c5 := cell_below B2 c5; have BB2 := bon BB B2; have K0 := own2.rd; have hn2 := own2.len))
        clear BB E0 c0 c1 c2 c3 c4
        go_loopw [8, 10] (fun u i wr => ∃ (k : Nat) (s : ByteArray), k ≤ n2 ∧ i = .int .i64 (k : Int) ∧ u = .string s ∧ strL s ++ (rtx (U.drop k) ++ T) = strL out ∧ s.size ≤ 40 + 24 * k ∧ Rd wr wr.heap.size .i64 A2 n2 U ∧ wr.cell? ⟨w.heap.size, 5, none⟩ = some (.int .i64 x.i) ∧ Below w.heap.size w wr) (fun _ i _ => n2 - (intOf i).toNat)
        case atStart =>
          refine ⟨0, _, Nat.zero_le _, rfl, rfl, ?_, ?_, K0, c5, BB2⟩
          · have h := HO.out
            rw [List.drop_zero, h]
            simp [strL_append]
            try rfl
          · first
              | omega
              | (simp only [cat_size]; first | omega | (show _ + (2 : Nat) + _ ≤ _; omega))
        case round =>
          obtain ⟨k, s, hk, rfl, rfl, hs, hz, KN, c5, BB⟩ := hrel
          clear K0 own2 BB2 B2
          by_cases hlt : k < n2
          · obtain ⟨b1, o1, y, eA, cy, y0, y1, hy⟩ := KN.int hlt
            have hof := rtx_off hy.out
            rw [hof] at hs
            have CF := Lib.hid (fun W => rformatInt_b y W y0 y1)
            have hzy := fiS_size y y0 y1
            have hfy := strL_fiS y
            obtain ⟨z, hz2⟩ : ∃ z, fiS y = z := ⟨_, rfl⟩
            rw [hz2] at hzy hfy
            unfold fiS at hz2
            rw [hz2] at CF
            rw [← hfy] at hs
            have HS := Lib.hid hs
            have HK := Lib.hid KN
            clear hof hs hz2 hfy hy KN
            subst eA
            go_wp2_with (first
              | (go_at_call 53; (with_reducible refine (CF.out _).mono ?_); rintro _ _ ⟨rfl, B⟩; have K1 := HK.out.on B; replace c5 := cell_below B c5; replace BB := bon BB B; clear B))
            go_roundw
            case rel =>
              refine ⟨k + 1, _, by omega, by go_num, rfl, ?_, ?_, K1, c5, BB⟩
              · have h := HS.out
                simp [strL_append] at h ⊢
                exact h
              · simp only [cat_size]
                first | omega | (show _ + (2 : Nat) + _ ≤ _; omega)
            case measure => simp [intOf]; omega
          · obtain rfl : k = n2 := by omega
            rw [List.drop_eq_nil_of_le (by omega)] at hs
            have HS := Lib.hid hs
            clear hs KN
            go_wp2_with (first
              | (go_at_call 53; (with_reducible refine (CM.out _).mono ?_); rintro _ _ ⟨rfl, B⟩; replace BB := bon BB B; clear B))
            go_ret
            refine ⟨ret_str (str_ext ?_), BB⟩
            have h := HS.out
            rw [← HT.out] at h
            simp [strL_append, rtx] at h ⊢
            exact h

theorem fmt_rng (l : List In) : ∀ y ∈ fmt l, (0 : Int) ≤ y ∧ y ≤ 255 := by
  intro y hy
  unfold fmt at hy
  obtain ⟨x, _, hx⟩ := List.mem_flatMap.1 hy
  rcases List.mem_append.1 hx with h | h
  · exact strL_rng _ y h
  · rw [List.mem_singleton.1 h]; decide

set_option maxRecDepth 100000 in
set_option maxHeartbeats 2000000 in
theorem rformat_b (p : Pr) (A : Option Addr) (n c : Nat) (w : World) (R : RdE inC 6 w w.heap.size A n p.cd) (hwf : ∀ x ∈ p.cd, x.wf) (hn : n ≤ 1000000) :
    Calls Tryd.prog 24 #[.agg (prA p A n c)] w fun e w' => e = .returned (.string (fmtS p.cd)) ∧ Below w.heap.size w w' := by
  obtain ⟨c0, c1, c2, c3, c4, c5, c6, c7, BB⟩ := boxP w p A n c 31
  have HR := Lib.hid R
  have HN := Lib.hid R.len
  have HW := Lib.hid hwf
  clear R hwf c0 c1 c2 c3 c4 c5 c6
  go_enter Tryd.func24, Tryd.ntmps24
  go_wp2
  obtain ⟨U, hU⟩ : ∃ U, w.alloc (.cells (prA p A n c) 31) = U := ⟨_, rfl⟩
  rw [hU] at c7 BB ⊢
  clear hU
  go_loopw [3, 4] (fun u i wr => ∃ (k : Nat) (s : ByteArray), k ≤ n ∧ i = .int .i64 (k : Int) ∧ u = .string s ∧ strL s = fmt (p.cd.take k) ∧ s.size ≤ 139 * k ∧ wr.cell? ⟨w.heap.size, 7, none⟩ = some (.slice A n c) ∧ Below w.heap.size w wr) (fun _ i _ => n - (intOf i).toNat)
  case atStart => exact ⟨0, _, Nat.zero_le _, rfl, rfl, rfl, by decide, c7, BB⟩
  case round =>
    clear c7 BB
    obtain ⟨k, s, hk, rfl, rfl, hs, hz, c7, BB⟩ := hrel
    by_cases hlt : k < n
    · have R1 := HR.out.below BB
      obtain ⟨b1, o1, x, rfl, hb1, E1, hx⟩ := R1.at_ hlt
      have hxw : x.wf := HW.out x (List.mem_of_getElem? hx.out)
      have hsz := linS_size hxw
      have hon := fmt_on hx.out
      have CL := Lib.hid (fun W => rline_b x W hxw)
      obtain ⟨z, hz2⟩ : ∃ z, linS x = z := ⟨_, rfl⟩
      rw [hz2] at CL hsz hon
      have HON := Lib.hid hon
      have HS := Lib.hid hs
      clear R1 hx hz2 hon hs hxw
      go_wp2_with (first
        | (with_reducible refine iload E1 rfl ?_; go_simp)
        | (go_at_call 38; (with_reducible refine (CL.out _).mono ?_); rintro _ _ ⟨rfl, B⟩; replace c7 := cell_below B c7; replace BB := bon BB B; clear B))
      go_roundw
      case rel =>
        refine ⟨k + 1, _, by omega, by go_num, rfl, ?_, ?_, c7, BB⟩
        · rw [HON.out, ← HS.out]
          simp [strL_append]
          try rfl
        · simp only [cat_size]
          first | omega | (show _ + _ + (1 : Nat) ≤ _; omega)
      case measure => simp [intOf]; omega
    · obtain rfl : k = n := by omega
      rw [List.take_of_length_le (by rw [HN.out]; exact Nat.le_refl _)] at hs
      have HS := Lib.hid hs
      clear hs
      go_wp2
      go_ret
      refine ⟨ret_str (str_ext ?_), BB⟩
      rw [HS.out, fmtS, strL_of (fmt_rng _)]

end Go.Proofs.YtnhnbblplnhmlaaDoor
