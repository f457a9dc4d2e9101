/- What addRun, Runs of package assemble and Runs of the reference return. -/
import Derived.Test.YtepammildggnmaaJ1
import Derived.Test.YtepammildggnmaaWide
namespace Go.Proofs.Ytepammildggnmaa
open Go.RowKit Go.Sort Go.ChangeShapes Go.WideShapes
set_option linter.unusedVariables false

theorem elInts : Elem Try.prog 22 3 .i64 8 := elem_of Try.underlying22 (by kernel_rfl)
theorem elRuns : ElemE Try.prog 35 22 1 24 := elemE_of Try.underlying35 (by kernel_rfl)

/-- A call that returns a slice of slices. -/
def GivesR (W : World) (rs : List (List Int)) (x : Ending) (w' : World) : Prop :=
  ∃ A n c rows, x = .returned (.slice A n c) ∧ RdR w' w'.heap.size .i64 A n rows ∧ rows.map (·.l) = rs ∧ Below W.heap.size W w'

abbrev OwnRI (w : World) (base h : Nat) (A : Option Addr) (n c : Nat) (rs : List Rw) : Prop := OwnR w base h 22 .i64 A n c rs
abbrev OwnI (w : World) (base : Nat) (A : Option Addr) (n c : Nat) (l : List Int) : Prop := Own w base 3 .i64 A n c l

/-- The runs so far, the run. -/
def SInv (w wr : World) (h : Nat) (A3 : Option Addr) (c3 : Nat) (rows : List Rw) (A4 : Option Addr) (c4 : Nat) (s : List (List Int) × List Int) : Prop :=
  OwnRI wr w.heap.size h A3 rows.length c3 rows ∧ OwnI wr h A4 s.2.length c4 s.2 ∧ w.heap.size ≤ h ∧ Below w.heap.size w wr ∧ rows.map (·.l) = s.1

section
variable {w wr W1 : World} {h c3 c4 : Nat} {A3 A4 : Option Addr} {rows : List Rw} {s : List (List Int) × List Int}

theorem SInv.bel (I : SInv w wr h A3 c3 rows A4 c4 s) : Below w.heap.size w wr := I.2.2.2.1
theorem SInv.outer (I : SInv w wr h A3 c3 rows A4 c4 s) : OwnRI wr w.heap.size h A3 rows.length c3 rows := I.1
theorem SInv.own (I : SInv w wr h A3 c3 rows A4 c4 s) : OwnE rwv 1 wr w.heap.size 22 A3 rows.length c3 rows := I.1.1
theorem SInv.run (I : SInv w wr h A3 c3 rows A4 c4 s) : OwnI wr h A4 s.2.length c4 s.2 := I.2.1
theorem SInv.hw (I : SInv w wr h A3 c3 rows A4 c4 s) : w.heap.size ≤ h := I.2.2.1
theorem SInv.count (I : SInv w wr h A3 c3 rows A4 c4 s) : rows.length = s.1.length := by rw [← I.2.2.2.2, List.length_map]

/-- A number joins the run. -/
theorem SInv.more {A' : Option Addr} {n' c' : Nat} {x : Int} (I : SInv w wr h A3 c3 rows A4 c4 s) (own : Own W1 h 3 .i64 A' n' c' (s.2 ++ [x])) (B : Below h wr W1) : SInv w W1 h A3 c3 rows A' c' (s.1, s.2 ++ [x]) :=
  ⟨I.1.keep B, by have := own.len; simp only at this ⊢; rw [this]; exact own, I.2.2.1, I.2.2.2.1.trans (B.mono I.2.2.1), I.2.2.2.2⟩

/-- The run is dropped. -/
theorem SInv.drop (I : SInv w wr h A3 c3 rows A4 c4 s) : SInv w wr wr.heap.size A3 c3 rows none 0 (s.1, []) :=
  ⟨I.1.up I.1.2.1 (Nat.le_refl _), Own.nil _ _ _, I.2.2.2.1.size, I.2.2.2.1, I.2.2.2.2⟩

/-- The run joins the runs. -/
theorem SInv.take {A' : Option Addr} {c' : Nat} (I : SInv w wr h A3 c3 rows A4 c4 s) (own : OwnE rwv 1 W1 w.heap.size 22 A' (rows.length + 1) c' (rows ++ [⟨A4, s.2.length, c4, s.2⟩])) (B : Below w.heap.size wr W1) (H : Apart wr W1 A3 A') :
    SInv w W1 W1.heap.size A' c' (rows ++ [⟨A4, s.2.length, c4, s.2⟩]) none 0 (s.1 ++ [s.2], []) := by
  have o := OwnR.join (r := ⟨A4, s.2.length, c4, s.2⟩) I.1 I.2.1.rd (fun g hg => I.2.1.1.lt g.block (by rw [show A4 = some g from hg]; rfl)) own H
  exact ⟨by simpa using o, Own.nil _ _ _, Nat.le_trans I.2.2.2.1.size H.2.2, I.2.2.2.1.trans B, by rw [List.map_append, I.2.2.2.2]; rfl⟩

theorem SInv.gives (I : SInv w wr h A3 c3 rows A4 c4 s) : GivesR w s.1 (.returned (.slice A3 rows.length c3)) wr := ⟨_, _, _, rows, rfl, I.1.rd, I.2.2.2.2, I.2.2.2.1⟩

theorem SInv.start (w : World) : SInv w w w.heap.size none 0 [] none 0 ([], []) := ⟨OwnR.nil _ _ _ _ _ (Nat.le_refl _) (Nat.le_refl _), Own.nil _ _ _, Nat.le_refl _, Below.refl _ _, rfl⟩
end

theorem addRun_no (A3 A4 : Option Addr) (n3 c3 c4 : Nat) (w : World) :
    Calls Try.prog 29 #[.slice A3 n3 c3, .slice A4 0 c4] w fun e w' => e = .returned (.slice A3 n3 c3) ∧ w = w' := by
  go_enter Try.func29, Try.ntmps29
  go_wp2
  go_ret
  exact ⟨rfl, rfl⟩

/-- What addRun gives where the run is not empty. -/
def GivesA (w0 w : World) (A3 : Option Addr) (rows : List Rw) (r : Rw) (x : Ending) (w' : World) : Prop :=
  ∃ A' c', x = .returned (.slice A' (rows.length + 1) c') ∧ OwnE rwv 1 w' w0.heap.size 22 A' (rows.length + 1) c' (rows ++ [r]) ∧ Below w0.heap.size w w' ∧ Apart w w' A3 A'

theorem addRun_yes (A3 A4 : Option Addr) (c3 n4 c4 : Nat) (l : List Int) (rows : List Rw) (w0 w : World) (own : OwnE rwv 1 w w0.heap.size 22 A3 rows.length c3 rows) (h0 : 0 < n4) (hb : rows.length ≤ 8796093021952) (h4 : n4 ≤ 9223372036854775807) :
    Calls Try.prog 29 #[.slice A3 rows.length c3, .slice A4 n4 c4] w (GivesA w0 w A3 rows ⟨A4, n4, c4, l⟩) := by
  have OW := Lib.hid own
  obtain ⟨m, hm⟩ : ∃ m, rows.length = m := ⟨_, rfl⟩
  unfold GivesA
  rw [hm] at OW hb ⊢
  clear own hm
  go_enter Try.func29, Try.ntmps29
  go_wp2_with (refine wpList_app1W _ rfl _ _ _ rfl rwEnc elRuns OW.out rfl ⟨A4, n4, c4, l⟩ rfl rfl (by simp only [maxLen]; omega) (by omega) ?_; intro A' c' W1 own1 B1 H1; have OW1 := Lib.hid own1; have BL := Lib.hid B1; have HL := Lib.hid H1; clear own1 B1 H1)
  go_ret
  exact ⟨A', c', rfl, OW1.out, BL.out, HL.out⟩

set_option maxRecDepth 100000 in
set_option maxHeartbeats 2000000 in
theorem runs_b (A : Option Addr) (n c : Nat) (l : List Int) (w : World) (R : Rd w w.heap.size .i64 A n l) (hn : n * 8 ≤ 140737488351232) :
    Calls Try.prog 21 #[.slice A n c] w (GivesR w (rns l)) := by
  have KR := Lib.hid R
  have hl := R.len
  have HR := Lib.hid (fun k (hk : k ≤ n) => rst_runs l k (by rw [hl]; exact hk))
  have HQ := Lib.hid (fun k (hk : k ≤ n) => rst_len l k (by rw [hl]; exact hk))
  have HE : Hid (rst (l.take n) = rst l) := Lib.hid (by rw [← hl, List.take_length])
  have I0 := Lib.hid (SInv.start w)
  clear R hl
  go_enter Try.func21, Try.ntmps21
  go_wp2_with fail
  go_loopw [3, 4, 9] (fun t u i wr => ∃ (k h c3 c4 : Nat) (A3 A4 : Option Addr) (rows : List Rw), k ≤ n ∧ i = .int .i64 (k : Int) ∧ t = .slice A3 rows.length c3 ∧ u = .slice A4 (rst (l.take k)).2.length c4 ∧ SInv w wr h A3 c3 rows A4 c4 (rst (l.take k))) (fun _ _ i _ => n - (intOf i).toNat)
  case atStart => exact ⟨0, _, 0, 0, none, none, [], by omega, rfl, rfl, rfl, I0.out⟩
  case round =>
    clear I0
    obtain ⟨k, h, c3, c4, A3, A4, rows, hk, rfl, rfl, rfl, I⟩ := hrel
    rename World => wr
    have hrr := (HR.out k hk).1
    have hqq := HQ.out k hk
    have hrl := I.count
    by_cases hlt : k < n
    · obtain ⟨b, off, x, rfl, cx, x0, x1, hx⟩ := ((KR.out.below I.bel).more I.bel.size).int hlt
      have hs := rst_snoc hx.out
      obtain ⟨⟨rs, r⟩, hst⟩ : ∃ s, rst (l.take k) = s := ⟨_, rfl⟩
      rw [hst] at hs hrr hqq hrl I ⊢
      simp only at hrr hqq hrl ⊢
      have HX : Hid (-9223372036854775808 ≤ x ∧ x ≤ 9223372036854775807) := Lib.hid ⟨x0, x1⟩
      by_cases hpos : 0 ≤ x
      · have HS : Hid (rst (l.take (k + 1)) = (rs, r ++ [x])) := Lib.hid (by rw [hs]; unfold rstep; rw [if_pos hpos])
        have hr8 : (r.length + 1) * 8 ≤ 140737488355328 := by omega
        have II := Lib.hid I
        clear hs hrr hqq hrl I hst hx
        go_wp2_with (refine wpList_app1 _ rfl _ _ _ rfl elInts II.out.run rfl HX.out rfl (by simp only [maxLen]; omega) hr8 ?_; intro A7 n7 c7 W7 own7 B7; have I7 := Lib.hid (II.out.more own7 B7); obtain rfl : n7 = (r ++ [x]).length := own7.len.symm; clear own7 B7)
        go_roundw
        case rel => exact ⟨k + 1, h, c3, c7, A3, A7, rows, by omega, by go_num, rfl, by (rw [HS.out]; first | done | simp), by rw [HS.out]; exact I7.out⟩
        case measure => simp [intOf]; omega
      · cases r with
        | nil =>
          have HS : Hid (rst (l.take (k + 1)) = (rs, [])) := Lib.hid (by rw [hs]; unfold rstep; rw [if_neg hpos, if_pos rfl])
          have I7 := Lib.hid I.drop
          clear hs hrr hqq hrl I hst hx
          go_wp2_with (go_at_call 29; (with_reducible refine (addRun_no _ _ _ _ _ _).mono ?_); rintro _ _ ⟨rfl, rfl⟩)
          go_roundw
          case rel => exact ⟨k + 1, _, c3, 0, A3, none, rows, by omega, by go_num, rfl, by (rw [HS.out]; first | done | simp), by rw [HS.out]; exact I7.out⟩
          case measure => simp [intOf]; omega
        | cons y ys =>
          obtain ⟨r, hr⟩ : ∃ r, y :: ys = r := ⟨_, rfl⟩
          have hne : r ≠ [] := by rw [← hr]; simp
          have hpl : 0 < r.length := List.length_pos_iff.2 hne
          rw [hr] at hs hrr hqq I ⊢
          have HS : Hid (rst (l.take (k + 1)) = (rs ++ [r], [])) := Lib.hid (by rw [hs]; unfold rstep; rw [if_neg hpos, if_neg hne])
          rw [if_neg hne] at hrr
          have hrow : rows.length ≤ 8796093021952 := by omega
          have II := Lib.hid I
          have CA := Lib.hid (fun W own => addRun_yes A3 A4 c3 r.length c4 r rows w W own hpl hrow (by omega))
          clear hs hrr hqq hrl I hst hx hr hne hrow hpl
          go_wp2_with (go_at_call 29; (with_reducible refine (CA.out _ II.out.own).mono ?_); rintro _ W7 ⟨A7, c7, rfl, own7, B7, H7⟩; have I7 := Lib.hid (II.out.take own7 B7 H7); clear own7 B7 H7)
          go_roundw
          case rel => exact ⟨k + 1, _, c7, 0, A7, none, rows ++ [⟨A4, r.length, c4, r⟩], by omega, by go_num, by (first | rfl | simp), by (rw [HS.out]; first | done | simp), by rw [HS.out]; exact I7.out⟩
          case measure => simp [intOf]; omega
    · obtain rfl : k = n := by omega
      rw [HE.out] at hrr hqq hrl I ⊢
      obtain ⟨⟨rs, r⟩, hst⟩ : ∃ s, rst l = s := ⟨_, rfl⟩
      have HF : Hid (rns l = rfin (rs, r)) := Lib.hid (by unfold rns; rw [hst])
      rw [hst] at hrr hqq hrl I ⊢
      simp only at hrr hqq hrl ⊢
      cases r with
      | nil =>
        have HG : Hid (rns l = rs) := Lib.hid (by rw [HF.out]; unfold rfin; rw [if_pos rfl])
        have II := Lib.hid I
        clear hrr hqq hrl I hst
        go_wp2_with (go_at_call 29; (with_reducible refine (addRun_no _ _ _ _ _ _).mono ?_); rintro _ _ ⟨rfl, rfl⟩)
        go_ret
        rw [HG.out]
        exact II.out.gives
      | cons y ys =>
        obtain ⟨r, hr⟩ : ∃ r, y :: ys = r := ⟨_, rfl⟩
        have hne : r ≠ [] := by rw [← hr]; simp
        have hpl : 0 < r.length := List.length_pos_iff.2 hne
        rw [hr] at hrr hqq I HF ⊢
        have HG : Hid (rns l = rs ++ [r]) := Lib.hid (by rw [HF.out]; unfold rfin; rw [if_neg hne])
        rw [if_neg hne] at hrr
        have hrow : rows.length ≤ 8796093021952 := by omega
        have II := Lib.hid I
        have CA := Lib.hid (fun W own => addRun_yes A3 A4 c3 r.length c4 r rows w W own hpl hrow (by omega))
        clear hrr hqq hrl I hst hr hne hrow hpl
        go_wp2_with (go_at_call 29; (with_reducible refine (CA.out _ II.out.own).mono ?_); rintro _ W7 ⟨A7, c7, rfl, own7, B7, H7⟩; have I7 := Lib.hid (II.out.take own7 B7 H7); clear own7 B7 H7)
        go_ret
        rw [HG.out]
        simpa using I7.out.gives

/-- The reference's state ahead of round k. -/
def rsk (l : List Int) (k : Nat) : List (List Int) × List Int := if k ≤ l.length then rst (l.take k) else (rns l, [])

theorem rsk_in {l : List Int} {k : Nat} (h : k ≤ l.length) : rsk l k = rst (l.take k) := if_pos h

theorem rsk_end (l : List Int) : rsk l (l.length + 1) = (rns l, []) := if_neg (by omega)

/-- Behind the last index, or at a negative one. -/
theorem rsk_drop {l : List Int} {k : Nat} (hk : k ≤ l.length) (h : ∀ x, l[k]? = some x → ¬ 0 ≤ x) : rsk l (k + 1) = (rfin (rst (l.take k)), []) := by
  by_cases hlt : k < l.length
  · have hx : l[k]? = some (l[k]'hlt) := List.getElem?_eq_getElem hlt
    rw [rsk_in (by omega), rst_snoc hx]
    unfold rstep
    rw [if_neg (h _ hx)]
    rfl
  · obtain rfl : k = l.length := by omega
    rw [rsk_end, List.take_length]
    rfl

set_option maxRecDepth 100000 in
set_option maxHeartbeats 2000000 in
theorem rruns_b (A : Option Addr) (n c : Nat) (l : List Int) (w : World) (R : Rd w w.heap.size .i64 A n l) (hn : n * 8 ≤ 140737488351232) :
    Calls Try.prog 22 #[.slice A n c] w (GivesR w (rns l)) := by
  have KR := Lib.hid R
  have hl := R.len
  have HR := Lib.hid (fun k (hk : k ≤ n) => rst_runs l k (by rw [hl]; exact hk))
  have HQ := Lib.hid (fun k (hk : k ≤ n) => rst_len l k (by rw [hl]; exact hk))
  have HK := Lib.hid (fun k (hk : k ≤ n) => rsk_in (l := l) (k := k) (by rw [hl]; exact hk))
  have HD := Lib.hid (fun k (hk : k ≤ n) => rsk_drop (l := l) (k := k) (by rw [hl]; exact hk))
  have HE : Hid (rsk l (n + 1) = (rns l, [])) := Lib.hid (by rw [← hl, rsk_end])
  have HN : Hid (∀ x, l[n]? = some x → ¬ 0 ≤ x) := Lib.hid fun x hx => by rw [List.getElem?_eq_none (by omega)] at hx; cases hx
  have I0 := Lib.hid (SInv.start w)
  clear R hl
  go_enter Try.func22, Try.ntmps22
  go_wp2_with fail
  go_loopw [3, 4, 5] (fun t u i wr => ∃ (k h c3 c4 : Nat) (A3 A4 : Option Addr) (rows : List Rw), k ≤ n + 1 ∧ i = .int .i64 (k : Int) ∧ t = .slice A3 rows.length c3 ∧ u = .slice A4 (rsk l k).2.length c4 ∧ SInv w wr h A3 c3 rows A4 c4 (rsk l k)) (fun _ _ i _ => n + 1 - (intOf i).toNat)
  case atStart => exact ⟨0, _, 0, 0, none, none, [], by omega, rfl, rfl, by rw [HK.out 0 (by omega)]; rfl, by rw [HK.out 0 (by omega)]; exact I0.out⟩
  case round =>
    clear I0
    obtain ⟨k, h, c3, c4, A3, A4, rows, hk, rfl, rfl, rfl, I⟩ := hrel
    rename World => wr
    by_cases hle : k ≤ n
    · have hrr := (HR.out k hle).1
      have hqq := HQ.out k hle
      rw [HK.out k hle] at I ⊢
      have hrl := I.count
      have hdrop := HD.out k hle
      have hpush : ∀ x, l[k]? = some x → 0 ≤ x → k < n → rsk l (k + 1) = ((rst (l.take k)).1, (rst (l.take k)).2 ++ [x]) := fun x hx h0 hlt => by
        rw [HK.out (k + 1) hlt, rst_snoc hx]; unfold rstep; rw [if_pos h0]
      obtain ⟨⟨rs, r⟩, hst⟩ : ∃ s, rst (l.take k) = s := ⟨_, rfl⟩
      rw [hst] at hrr hqq hrl I hdrop hpush ⊢
      simp only at hrr hqq hrl hpush ⊢
      have HDD := Lib.hid hdrop
      clear hdrop
      by_cases hlt : k < n
      · obtain ⟨b, off, x, rfl, cx, x0, x1, hx⟩ := ((KR.out.below I.bel).more I.bel.size).int hlt
        have HX : Hid (-9223372036854775808 ≤ x ∧ x ≤ 9223372036854775807) := Lib.hid ⟨x0, x1⟩
        by_cases hpos : 0 ≤ x
        · have HS : Hid (rsk l (k + 1) = (rs, r ++ [x])) := Lib.hid (hpush x hx.out hpos hlt)
          have hr8 : (r.length + 1) * 8 ≤ 140737488355328 := by omega
          have II := Lib.hid I
          clear hpush hrr hqq hrl I hst hx HDD
          go_wp2_with (refine wpList_app1 _ rfl _ _ _ rfl elInts II.out.run rfl HX.out rfl (by simp only [maxLen]; omega) hr8 ?_; intro A7 n7 c7 W7 own7 B7; have I7 := Lib.hid (II.out.more own7 B7); obtain rfl : n7 = (r ++ [x]).length := own7.len.symm; clear own7 B7)
          go_roundw
          case rel => exact ⟨k + 1, h, c3, c7, A3, A7, rows, by omega, by go_num, rfl, by (rw [HS.out]; first | done | simp), by rw [HS.out]; exact I7.out⟩
          case measure => simp [intOf] <;> omega
        · have HS := Lib.hid (HDD.out fun y hy => by rw [hx.out] at hy; injection hy with hy; subst hy; omega)
          have tx : decide (0 ≤ x) = false := decide_eq_false (by omega)
          clear hpush HDD
          by_cases hr0 : r = []
          · subst hr0
            have HS' : Hid (rsk l (k + 1) = (rs, [])) := Lib.hid (by rw [HS.out]; unfold rfin; rw [if_pos rfl])
            have I7 := Lib.hid I.drop
            clear HS hrr hqq hrl I hst hx
            go_wp2_with fail
            go_roundw
            case rel => exact ⟨k + 1, _, c3, 0, A3, none, rows, by omega, by go_num, rfl, by (rw [HS'.out]; first | done | simp), by rw [HS'.out]; exact I7.out⟩
            case measure => simp [intOf] <;> omega
          · have hpl : 0 < r.length := List.length_pos_iff.2 hr0
            have HS' : Hid (rsk l (k + 1) = (rs ++ [r], [])) := Lib.hid (by rw [HS.out]; unfold rfin; rw [if_neg hr0])
            rw [if_neg hr0] at hrr
            have hrow : rows.length ≤ 8796093021952 := by omega
            have hb : (rows.length + 1 + (rows.length + 1) / 4 + 192) * 24 ≤ 281474976710656 := by omega
            have II := Lib.hid I
            clear HS hrr hqq hrl I hst hx hr0
            go_wp2_with (refine wpList_app1W _ rfl _ _ _ rfl rwEnc elRuns II.out.own rfl ⟨A4, r.length, c4, r⟩ rfl rfl (by simp only [maxLen]; omega) hb ?_; intro A7 c7 W7 own7 B7 H7; have I7 := Lib.hid (II.out.take own7 B7 H7); clear own7 B7 H7)
            go_roundw
            case rel => exact ⟨k + 1, _, c7, 0, A7, none, rows ++ [⟨A4, r.length, c4, r⟩], by omega, by go_num, by (first | rfl | simp), by (rw [HS'.out]; first | done | simp), by rw [HS'.out]; exact I7.out⟩
            case measure => simp [intOf] <;> omega
      · obtain rfl : k = n := by omega
        have HS := Lib.hid (HDD.out HN.out)
        clear hpush HDD
        by_cases hr0 : r = []
        · subst hr0
          have HS' : Hid (rsk l (k + 1) = (rs, [])) := Lib.hid (by rw [HS.out]; unfold rfin; rw [if_pos rfl])
          have I7 := Lib.hid I.drop
          clear HS hrr hqq hrl I hst
          go_wp2_with fail
          go_roundw
          case rel => exact ⟨k + 1, _, c3, 0, A3, none, rows, by omega, by go_num, rfl, by (rw [HS'.out]; first | done | simp), by rw [HS'.out]; exact I7.out⟩
          case measure => simp [intOf] <;> omega
        · have hpl : 0 < r.length := List.length_pos_iff.2 hr0
          have HS' : Hid (rsk l (k + 1) = (rs ++ [r], [])) := Lib.hid (by rw [HS.out]; unfold rfin; rw [if_neg hr0])
          rw [if_neg hr0] at hrr
          have hrow : rows.length ≤ 8796093021952 := by omega
          have hb : (rows.length + 1 + (rows.length + 1) / 4 + 192) * 24 ≤ 281474976710656 := by omega
          have II := Lib.hid I
          clear HS hrr hqq hrl I hst hr0
          go_wp2_with (refine wpList_app1W _ rfl _ _ _ rfl rwEnc elRuns II.out.own rfl ⟨A4, r.length, c4, r⟩ rfl rfl (by simp only [maxLen]; omega) hb ?_; intro A7 c7 W7 own7 B7 H7; have I7 := Lib.hid (II.out.take own7 B7 H7); clear own7 B7 H7)
          go_roundw
          case rel => exact ⟨k + 1, _, c7, 0, A7, none, rows ++ [⟨A4, r.length, c4, r⟩], by omega, by go_num, by (first | rfl | simp), by (rw [HS'.out]; first | done | simp), by rw [HS'.out]; exact I7.out⟩
          case measure => simp [intOf] <;> omega
    · obtain rfl : k = n + 1 := by omega
      rw [HE.out] at I ⊢
      have II := Lib.hid I
      have tn : decide ((n : Int) + 1 ≤ (n : Int)) = false := decide_eq_false (by omega)
      clear I
      go_wp2
      go_ret
      exact II.out.gives

end Go.Proofs.Ytepammildggnmaa
