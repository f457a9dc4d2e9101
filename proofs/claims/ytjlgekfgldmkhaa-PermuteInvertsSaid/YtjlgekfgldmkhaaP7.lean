/- What isIndex, IsPermutation and Inverse of package permute return (a list of flags; the inverse written index by index). -/
import Derived.Test.YtjlgekfgldmkhaaP6
namespace Go.Proofs.Ytjlgekfgldmkhaa
open Go.RowKit Go.Sort

theorem iBool : (Try.prog.info? 4).map (fun i => (i.zero, i.size, i.bytes)) = some (some (.bool false), 1, 1) := by kernel_rfl

/-- The flags of the numbers met so far. -/
def seenL (n : Nat) (l : List Int) : List Value := (List.range n).map fun x : Nat => Value.bool (decide ((x : Int) ∈ l))

theorem seenL_nil (n : Nat) : seenL n [] = List.replicate n (.bool false) := by
  unfold seenL
  apply List.ext_getElem
  · simp
  · intro i h1 h2; simp
theorem seenL_at {n x : Nat} {l : List Int} (h : x < n) : (seenL n l)[x]? = some (.bool (decide ((x : Int) ∈ l))) := by
  unfold seenL
  simp [h]
theorem seenL_set {n x : Nat} {l : List Int} : (seenL n l).set x (.bool true) = seenL n (l ++ [(x : Int)]) := by
  apply List.ext_getElem?
  intro i
  by_cases hi : i < n
  · rw [seenL_at hi, List.getElem?_set]
    by_cases e : x = i
    · subst e
      simp [seenL, hi]
    · rw [if_neg e, seenL_at hi]
      simp only [List.mem_append, List.mem_singleton, Option.some.injEq, Value.bool.injEq, decide_eq_decide]
      constructor
      · exact fun h => .inl h
      · rintro (h | h)
        · exact h
        · omega
  · rw [List.getElem?_eq_none (by simp [seenL]; omega), List.getElem?_eq_none (by simp [seenL]; omega)]

theorem take_snoc {l : List Int} {k : Nat} {x : Int} (h : l[k]? = some x) : l.take (k + 1) = l.take k ++ [x] := by
  obtain ⟨hk, rfl⟩ := List.getElem?_eq_some_iff.1 h
  exact List.take_succ_eq_append_getElem hk

theorem isIndexYes (A : Option Addr) (n c : Nat) (x : Int) (w : World) (h0 : 0 ≤ x) (h1 : x < n) :
    Calls Try.prog 25 #[.slice A n c, .int .i64 x] w fun e w' => e = .returned (.bool true) ∧ w = w' := by
  go_enter Try.func25, Try.ntmps25
  go_wp2
  go_ret
  exact ⟨rfl, rfl⟩

theorem isIndexNo (A : Option Addr) (n c : Nat) (x : Int) (w : World) (h : ¬ (0 ≤ x ∧ x < n)) :
    Calls Try.prog 25 #[.slice A n c, .int .i64 x] w fun e w' => e = .returned (.bool false) ∧ w = w' := by
  by_cases h0 : 0 ≤ x
  · have h1 : (n : Int) ≤ x := by omega
    clear h
    go_enter Try.func25, Try.ntmps25
    go_wp2
    go_ret
    exact ⟨congrArg (fun b => Ending.returned (.bool b)) (decide_eq_false (by omega)), rfl⟩
  · clear h
    go_enter Try.func25, Try.ntmps25
    go_wp2
    go_ret
    exact ⟨rfl, rfl⟩

set_option maxRecDepth 100000 in
set_option maxHeartbeats 1000000 in
theorem isPermutation_b (A : Option Addr) (n c : Nat) (l : List Int) (w : World) (R : Rd w w.heap.size .i64 A n l) (hn : n * 8 ≤ 140737488351232) :
    Calls Try.prog 20 #[.slice A n c] w fun e w' => e = .returned (.bool (isPB l)) ∧ Below w.heap.size w w' := by
  have BB : Below w.heap.size w w := Below.refl _ _
  have HL := Lib.hid R.len
  have RR := Lib.hid R
  obtain ⟨r, hr⟩ : ∃ r, isPB l = r := ⟨_, rfl⟩
  rw [hr]
  have HR := Lib.hid hr
  clear hr R
  go_enter Try.func20, Try.ntmps20
  go_wp2_with (refine wpList_makeV _ rfl _ _ _ rfl Try.underlying40 iBool rfl .i64 .i64 n rfl rfl (by omega) (by simp only [maxLen]; omega) w.heap.size (Nat.le_refl _) ?_; intro b W1 own1 B1 hb)
  rw [← seenL_nil] at own1
  go_loopw [11] (fun i wr => ∃ k : Nat, k ≤ n ∧ i = .int .i64 k ∧ (l.take k).Nodup ∧ (∀ x ∈ l.take k, 0 ≤ x ∧ x < n) ∧ OwnV wr w.heap.size 4 b n n (seenL n (l.take k)) ∧ Below w.heap.size w wr) (fun i _ => n - (intOf i).toNat)
  case atStart => exact ⟨0, by omega, rfl, by simp, by simp, by rw [List.take_zero]; exact own1, bon BB B1⟩
  case round =>
    clear BB own1 B1
    obtain ⟨k, hk, rfl, hnd, hrg, own, BB⟩ := hrel
    by_cases hlt : k < n
    · obtain ⟨b1, off, y, rfl, cy, y0, y1, hy⟩ := (RR.out.below BB).int hlt
      have hmem : y ∈ l := List.mem_of_getElem? hy.out
      have htk := take_snoc hy.out
      by_cases hbad : y < 0 ∨ (n : Int) ≤ y
      · have hno : r = false := by
          rw [← HR.out]
          refine isPB_no fun h => ?_
          have := h.rng hmem
          rw [HL.out] at this
          omega
        subst hno
        have CI := Lib.hid (fun W A' => isIndexNo A' n c y W (by omega))
        clear hnd hrg own hmem htk hy
        go_wp2_with (go_at_call 25; refine (CI.out _ _).mono ?_; rintro _ _ ⟨rfl, rfl⟩)
        go_ret
        exact ⟨rfl, BB⟩
      · obtain ⟨x, rfl⟩ : ∃ x : Nat, y = x := ⟨y.toNat, by omega⟩
        have hxn : x < n := by omega
        have CI := Lib.hid (fun W A' => isIndexYes A' n c (x : Int) W (by omega) (by omega))
        have c1 := own.cell (seenL_at (l := l.take k) hxn)
        by_cases hin : (x : Int) ∈ l.take k
        · have hno : r = false := by
            rw [← HR.out]
            refine isPB_no fun h => ?_
            obtain ⟨i, hi, hix⟩ := List.mem_take_iff_getElem.1 hin
            have h1 := idx_at h.nodup hy.out
            have h2 := idx_at h.nodup (i := i) (x := (x : Int)) (by rw [List.getElem?_eq_getElem (by omega), hix])
            omega
          subst hno
          rw [decide_eq_true hin] at c1
          clear hnd hrg own hmem htk hy hin hbad
          go_wp2_with (go_at_call 25; refine (CI.out _ _).mono ?_; rintro _ _ ⟨rfl, rfl⟩)
          go_ret
          exact ⟨rfl, BB⟩
        · rw [decide_eq_false hin] at c1
          have f1 := own.frozen (j := x)
          have own2 := (own.set (j := x) (.bool true)).1
          have B2 := (own.set (j := x) (.bool true)).2
          rw [seenL_set, ← htk] at own2
          have H1 : Hid ((l.take (k + 1)).Nodup) := Lib.hid (by
            rw [htk, List.nodup_append]
            exact ⟨hnd, by simp, fun a ha b hb e => by simp at hb; subst hb; subst e; exact hin ha⟩)
          have H2 : Hid (∀ x ∈ l.take (k + 1), 0 ≤ x ∧ x < n) := Lib.hid (by
            intro z hz
            rw [htk] at hz
            rcases List.mem_append.1 hz with hz | hz
            · exact hrg z hz
            · simp at hz; omega)
          have OWN2 := Lib.hid own2
          clear hnd hrg own hmem htk hy hin hbad own2
          go_wp2_with (go_at_call 25; refine (CI.out _ _).mono ?_; rintro _ _ ⟨rfl, rfl⟩)
          go_roundw
          case rel => exact ⟨k + 1, by omega, by go_num, H1.out, H2.out, OWN2.out, BB.trans B2⟩
          case measure => simp [intOf]; omega
    · obtain rfl : k = n := by omega
      rw [List.take_of_length_le (by rw [HL.out]; exact Nat.le_refl _)] at hnd hrg
      have hyes : r = true := by
        rw [← HR.out]
        exact isPB_yes (isP_of_nodup hnd (by rw [HL.out]; exact hrg))
      subst hyes
      clear hnd hrg own
      go_wp2
      go_ret
      exact ⟨rfl, BB⟩

/-- What Inverse has written: the places of the first k. -/
def InvTo (l L : List Int) (k : Nat) : Prop := L.length = l.length ∧ (∀ y ∈ L, 0 ≤ y ∧ y ≤ 9223372036854775807) ∧ ∀ (i x : Nat), i < k → l[i]? = some (x : Int) → L[x]? = some (i : Int)

theorem InvTo.on {l L : List Int} {k x : Nat} (h : InvTo l L k) (hP : IsP l) (hx : l[k]? = some (x : Int)) (hk : k ≤ 9223372036854775807) : InvTo l (L.set x (k : Int)) (k + 1) := by
  refine ⟨by rw [List.length_set]; exact h.1, fun y hy => ?_, fun i z hi hz => ?_⟩
  · rcases List.mem_or_eq_of_mem_set hy with hy | rfl
    · exact h.2.1 y hy
    · omega
  · have hxl := hP.rng (List.mem_of_getElem? hx)
    rw [List.getElem?_set]
    by_cases e : x = z
    · subst e
      have h1 := idx_at hP.nodup hx
      have h2 := idx_at hP.nodup hz
      rw [if_pos rfl, if_pos (by rw [h.1]; omega)]
      congr 1
      omega
    · rw [if_neg e]
      rcases Nat.lt_or_ge i k with hik | hik
      · exact h.2.2 i z hik hz
      · obtain rfl : i = k := by omega
        rw [hx] at hz
        injection hz with hz
        omega

theorem InvTo.done {l L : List Int} (h : InvTo l L l.length) (hP : IsP l) : L = inv l := by
  apply List.ext_getElem?
  intro x
  by_cases hx : x < l.length
  · have hmem := hP.all hx
    have hix : l.idxOf (x : Int) < l.length := List.idxOf_lt_length_of_mem hmem
    rw [inv_at hx, h.2.2 _ x hix (by rw [List.getElem?_eq_getElem hix, List.getElem_idxOf hix])]
  · rw [List.getElem?_eq_none (by rw [h.1]; omega), List.getElem?_eq_none (by rw [inv_len]; omega)]

set_option maxRecDepth 100000 in
set_option maxHeartbeats 1000000 in
theorem inverse_b (A : Option Addr) (n c : Nat) (l : List Int) (w : World) (R : Rd w w.heap.size .i64 A n l) (hn : n * 8 ≤ 140737488351232) :
    Calls Try.prog 18 #[.slice A n c] w (GivesN w .i64 (invv l)) := by
  have BB : Below w.heap.size w w := Below.refl _ _
  have HL := Lib.hid R.len
  have hp := fun W R => isPermutation_b A n c l W R hn
  have RR := Lib.hid R
  cases hb : isPB l
  · have e : Hid (invv l = ([], 2)) := Lib.hid (by unfold invv; rw [hb]; rfl)
    rw [hb] at hp
    have HP := Lib.hid hp
    rw [e.out]
    clear hp hb R
    go_enter Try.func18, Try.ntmps18
    go_wp2_with (go_at_call 20; refine (HP.out _ RR.out).mono ?_; rintro _ _ ⟨rfl, B⟩; replace BB := bon BB B)
    go_ret2
    exact GivesN.none_ BB
  · have hP : IsP l := by
      rcases Classical.em (IsP l) with h | h
      · exact h
      · rw [isPB_no h] at hb; cases hb
    have e : Hid (invv l = (inv l, 0)) := Lib.hid (by unfold invv; rw [hb]; rfl)
    have HPP := Lib.hid hP
    rw [hb] at hp
    have HP := Lib.hid hp
    rw [e.out]
    clear hp hb R hP
    go_enter Try.func18, Try.ntmps18
    go_wp2_with (first
      | (go_at_call 20; refine (HP.out _ RR.out).mono ?_; rintro _ W0 ⟨rfl, B0⟩)
      | (refine wpList_makeV _ rfl _ _ _ rfl Try.underlying27 iI rfl .i64 .i64 n rfl rfl (by omega) (by simp only [maxLen]; omega) w.heap.size B0.size ?_; intro b W1 own1 B1 hb))
    have own1' : OwnV W1 w.heap.size 3 b n n ((List.replicate n (0 : Int)).map (Value.int .i64)) := by rw [List.map_replicate]; exact own1
    have OWN1 := Lib.hid own1'
    have BB1 := bon (bon BB B0) B1
    clear own1 own1' BB
    go_loopw [15] (fun i wr => ∃ (k : Nat) (L : List Int), k ≤ n ∧ i = .int .i64 k ∧ InvTo l L k ∧ OwnV wr w.heap.size 3 b n n (L.map (Value.int .i64)) ∧ Below w.heap.size w wr) (fun i _ => n - (intOf i).toNat)
    case atStart => exact ⟨0, _, by omega, rfl, ⟨by rw [List.length_replicate, HL.out], by simp, fun i x h => absurd h (by omega)⟩, OWN1.out, BB1⟩
    case round =>
      clear BB1 OWN1 B1
      obtain ⟨k, L, hk, rfl, hI, own, BB⟩ := hrel
      by_cases hlt : k < n
      · obtain ⟨b1, off, y, rfl, cy, y0, y1, hy⟩ := (RR.out.below BB).int hlt
        have hyr := HPP.out.rng (List.mem_of_getElem? hy.out)
        rw [HL.out] at hyr
        obtain ⟨x, rfl⟩ : ∃ x : Nat, y = x := ⟨y.toNat, by omega⟩
        have hxn : x < n := by omega
        have hLx : (L.map (Value.int .i64))[x]? = some (.int .i64 (L.getD x 0)) := by
          rw [List.getElem?_map, List.getElem?_eq_getElem (by rw [hI.1, HL.out]; exact hxn), List.getD, List.getElem?_eq_getElem (by rw [hI.1, HL.out]; exact hxn)]
          rfl
        have c1 := own.cell hLx
        have f1 := own.frozen (j := x)
        have own2 := (own.set (j := x) (.int .i64 (k : Int))).1
        have B2 := (own.set (j := x) (.int .i64 (k : Int))).2
        rw [← List.map_set] at own2
        have OWN2 := Lib.hid own2
        have HI2 := Lib.hid (hI.on HPP.out hy.out (by omega))
        clear own own2 hI hLx hy hyr y0 y1
        go_wp2
        go_roundw
        case rel => exact ⟨k + 1, _, by omega, by go_num, HI2.out, OWN2.out, BB.trans B2⟩
        case measure => simp [intOf]; omega
      · obtain rfl : k = n := by omega
        have hd : L = inv l := InvTo.done (by rw [HL.out]; exact hI) HPP.out
        have own2 := own.ints (fun y hy => by have := hI.2.1 y hy; rw [i64_min, i64_max]; omega)
        rw [hd] at own2
        have OWN2 := Lib.hid own2
        clear own own2 hI hd
        go_wp2
        go_ret2
        exact ⟨_, _, _, rfl, OWN2.out, BB⟩

end Go.Proofs.Ytjlgekfgldmkhaa
