/- What Inverse and Perm of the reference return. -/
import Derived.Test.YtjlgekfgldmkhaaP2
namespace Go.Proofs.Ytjlgekfgldmkhaa
open Go.RowKit Go.Sort

theorem eI : Elem Try.prog 27 3 .i64 8 := elem_of Try.underlying27 (by kernel_rfl)

/-- What a call gives that returns a list of ints and a number. -/
def GivesN (W : World) (k : IntKind) (T : List Int × Int) (x : Ending) (w' : World) : Prop :=
  ∃ A n c, x = .returned (.tuple #[.slice A n c, .int k T.2]) ∧ Own w' W.heap.size 3 .i64 A n c T.1 ∧ Below W.heap.size W w'

theorem GivesN.none_ {W w' : World} {k : IntKind} {er : Int} (B : Below W.heap.size W w') : GivesN W k ([], er) (.returned (.tuple #[.slice none 0 0, .int k er])) w' :=
  ⟨none, 0, 0, rfl, ⟨World.ownsRow_nil _ _ _ _, by simp, B.size⟩, B⟩

/-- Inverse's list and error. -/
noncomputable def invv (l : List Int) : List Int × Int := if isPB l = true then (inv l, 0) else ([], 2)

theorem inv_take {l : List Int} {k : Nat} (h : k < l.length) : (inv l).take (k + 1) = (inv l).take k ++ [(l.idxOf (k : Int) : Int)] := by
  have hl : k < (inv l).length := by rw [inv_len]; exact h
  rw [List.take_succ_eq_append_getElem hl]
  congr 2
  have := inv_at h
  rw [List.getElem?_eq_getElem hl] at this
  injection this

theorem app_len {w w' : World} {b b' n n' c c' : Nat} {e e' : TypeId} {k k' : IntKind} {A A' : Option Addr} {l : List Int} {x : Int} (h : Own w b e k A n c l) (h' : Own w' b' e' k' A' n' c' (l ++ [x])) : n' = n + 1 := by
  rw [← h.len, ← h'.len, List.length_append, List.length_singleton]

set_option maxRecDepth 100000 in
set_option maxHeartbeats 1000000 in
theorem rinverse_b (A : Option Addr) (n c : Nat) (l : List Int) (w : World) (R : Rd w w.heap.size .i64 A n l) (hn : n * 8 ≤ 140737488351232) :
    Calls Try.prog 19 #[.slice A n c] w (GivesN w .i64 (invv l)) := by
  have BB : Below w.heap.size w w := Below.refl _ _
  have HL := Lib.hid R.len
  have hp := fun W R => risPermutation_q A n c l W R (by omega)
  have RR := Lib.hid R
  cases hb : isPB l
  · have e : Hid (invv l = ([], 2)) := Lib.hid (by unfold invv; rw [hb]; rfl)
    rw [hb] at hp
    have HP := Lib.hid hp
    rw [e.out]
    clear hp hb R
    go_enter Try.func19, Try.ntmps19
    go_wp2_with (go_at_call 21; refine (HP.out _ RR.out).mono ?_; rintro _ _ ⟨rfl, rfl⟩)
    go_ret2
    exact GivesN.none_ BB
  · have hP : IsP l := by
      rcases Classical.em (IsP l) with h | h
      · exact h
      · rw [isPB_no h] at hb; cases hb
    have e : Hid (invv l = (inv l, 0)) := Lib.hid (by unfold invv; rw [hb]; rfl)
    have HPP := Lib.hid hP
    rw [hb] at hp
    have HP := Lib.hid hp
    rw [e.out]
    clear hp hb R hP
    go_enter Try.func19, Try.ntmps19
    go_wp2_with (go_at_call 21; refine (HP.out _ RR.out).mono ?_; rintro _ _ ⟨rfl, rfl⟩)
    go_loopw [4, 5] (fun t i wr => ∃ (k cap : Nat) (A' : Option Addr), k ≤ n ∧ i = .int .i64 k ∧ t = .slice A' k cap ∧ Own wr w.heap.size 3 .i64 A' k cap ((inv l).take k) ∧ Below w.heap.size w wr) (fun _ i _ => n - (intOf i).toNat)
    case atStart => exact ⟨0, 0, none, by omega, rfl, rfl, by rw [List.take_zero]; exact Own.nil w _ _, BB⟩
    case round =>
      clear BB
      obtain ⟨k, cap, A', hk, rfl, rfl, own, BB⟩ := hrel
      have hx0 : -9223372036854775808 ≤ (k : Int) := by omega
      by_cases hlt : k < n
      · have hkl : k < l.length := by rw [HL.out]; exact hlt
        have hmem := HPP.out.all hkl
        have hix : l.idxOf (k : Int) < l.length := List.idxOf_lt_length_of_mem hmem
        have hat : l[l.idxOf (k : Int)]? = some (k : Int) := by rw [List.getElem?_eq_getElem hix, List.getElem_idxOf hix]
        have hbefore : ∀ q : Nat, q < l.idxOf (k : Int) → l[q]? ≠ some (k : Int) := by
          intro q hq h
          have := idx_at HPP.out.nodup h
          omega
        have htk := inv_take hkl
        obtain ⟨I, hI⟩ : ∃ I, l.idxOf (k : Int) = I := ⟨_, rfl⟩
        rw [hI] at hix hat hbefore htk
        have HI1 : Hid (l[I]? = some (k : Int)) := Lib.hid hat
        have HI2 := Lib.hid hbefore
        have HTK := Lib.hid htk
        have hIn : I < n := by rw [← HL.out]; exact hix
        have OWN := Lib.hid own
        clear hix hat hbefore htk hI hmem hkl own
        go_wp2
        go_loop [6] (fun i => ∃ q : Nat, q ≤ I ∧ i = .int .i64 q) (fun i => I - (intOf i).toNat)
        case atStart => exact ⟨0, by omega, rfl⟩
        case round =>
          obtain ⟨q, hq, rfl⟩ := hrel
          by_cases hqI : q < I
          · obtain ⟨b, off, y, rfl, cy, y0, y1, hy⟩ := (RR.out.below BB).int (show q < n by omega)
            have hne : (y != (k : Int)) = true := by
              have := HI2.out q hqI
              rw [hy.out] at this
              simpa using this
            clear hy
            go_wp2
            go_round
            case rel => exact ⟨q + 1, by omega, by go_num⟩
            case measure => simp [intOf]; omega
          · obtain rfl : q = I := by omega
            obtain ⟨b, off, y, rfl, cy, y0, y1, hy⟩ := (RR.out.below BB).int hIn
            obtain rfl : y = (k : Int) := hid_some HI1 hy
            have hne : ((k : Int) != (k : Int)) = false := by simp
            have own := OWN.out
            clear hy
            go_wp2_with (at_builtin; refine wpList_app1 _ rfl _ _ _ rfl eI own rfl (by rw [i64_min, i64_max]; omega) rfl (by simp only [maxLen]; omega) (by omega) ?_; intro A1 n1 c1 W1 own1 B1; obtain rfl : n1 = k + 1 := app_len own own1)
            go_roundw
            case rel => exact ⟨k + 1, c1, A1, by omega, by go_num, rfl, by rw [HTK.out]; exact own1, BB.trans B1⟩
            case measure => simp [intOf]; omega
      · obtain rfl : k = n := by omega
        have own2 : Own wr w.heap.size 3 .i64 A' k cap (inv l) := by
          rwa [List.take_of_length_le (by rw [inv_len, HL.out]; exact Nat.le_refl _)] at own
        clear own
        go_wp2
        go_ret2
        exact ⟨A', _, cap, rfl, own2, BB⟩

end Go.Proofs.Ytjlgekfgldmkhaa
