/- What SplitLines of the reference returns. -/
import Derived.Test.YthancgnmbmempaaDoorF10
namespace Go.Proofs.YthancgnmbmempaaDoor
open Go.RowKit Go.Sort

/-- The lines of a text; the error. -/
def slin (L : List Int) : List (List Int) × Int :=
  if 16384 < L.length then ([], 5) else if L = [] then ([], 0) else if L.getLast? = some 10 then (sp 10 L.dropLast [], 0) else ([], 3)

/-- What a call that returns strings and an error gives. -/
def GivesE (W : World) (T : List (List Int) × Int) (x : Ending) (w' : World) : Prop :=
  ∃ A n c l, x = .returned (.tuple #[.slice A n c, .int .i64 T.2]) ∧ OwnS w' W.heap.size 9 A n c l ∧ l.map strL = T.1 ∧ Below W.heap.size W w'

theorem GivesE.none_ {W w' : World} {er : Int} (B : Below W.heap.size W w') : GivesE W ([], er) (.returned (.tuple #[.slice none 0 0, .int .i64 er])) w' :=
  ⟨none, 0, 0, [], rfl, ⟨World.ownsRow_nil _ _ _ _, B.size⟩, rfl, B⟩

theorem ne_str {s : ByteArray} (h : 0 < s.size) : s.toList.isEmpty = false := by
  rw [ByteArray.toList_eq]
  cases hl : s.data.toList with
  | nil =>
    exfalso
    have := strL_len s
    unfold strL at this
    rw [hl] at this
    simp at this
    omega
  | cons _ _ => rfl

theorem last_at (s : ByteArray) (h : 0 < s.size) : (strL s).getLast? = some ((s[s.size - 1]'(by omega)).toNat : Int) := by
  rw [List.getLast?_eq_getElem?, strL_len]
  exact strL_at s _ (by omega)

theorem init_str (s : ByteArray) : strL (s.extract 0 (s.size - 1)) = (strL s).dropLast := by
  rw [strL_extract, List.dropLast_eq_take, strL_len]; simp

set_option maxRecDepth 100000 in
theorem rsplitLines_b (s : ByteArray) (w : World) (hs : s.size ≤ 9223372036854775807) :
    Calls Tryd.prog 25 #[.string s] w (GivesE w (slin (strL s))) := by
  have BB : Below w.heap.size w w := Below.refl _ _
  by_cases hbig : 16384 < s.size
  · have e : slin (strL s) = ([], 5) := by unfold slin; rw [if_pos (by rw [strL_len]; exact hbig)]
    rw [e]
    clear e
    go_enter Tryd.func25, Tryd.ntmps25
    go_wp2
    go_ret2
    exact GivesE.none_ BB
  · rcases Nat.eq_zero_or_pos s.size with h0 | hpos
    · obtain rfl : s = ⟨#[]⟩ := str_ext (by rw [head_none s h0]; rfl)
      have e : slin (strL ⟨#[]⟩) = ([], 0) := rfl
      rw [e]
      clear e
      go_enter Tryd.func25, Tryd.ntmps25
      go_wp2
      go_ret2
      exact GivesE.none_ BB
    · have hne := ne_str hpos
      have hlne : strL s ≠ [] := fun h => by have := strL_len s; rw [h] at this; simp at this; omega
      have hpi : (0 : Int) < (s.size : Int) := by omega
      have e : slin (strL s) = if ((s[s.size - 1]'(by omega)).toNat : Int) = 10 then (sp 10 (strL (s.extract 0 (s.size - 1))) [], 0) else ([], 3) := by
        unfold slin
        rw [if_neg (by rw [strL_len]; omega), if_neg hlne, last_at s hpos, init_str]
        simp only [Option.some.injEq]
      rw [e]
      clear e hlne
      have hsp := fun W => rsplit_b (s.extract 0 (s.size - 1)) 10 W (by rw [ByteArray.size_extract]; omega)
      have HSP := Lib.hid hsp
      have hb := (s[s.size - 1]'(by omega)).toNat_lt
      clear hsp
      by_cases h10 : ((s[s.size - 1]'(by omega)).toNat : Int) = 10
      · rw [if_pos h10]
        have he : (((s[s.size - 1]'(by omega)).toNat : Int) == 10) = true := by simp [h10]
        clear h10
        go_enter Tryd.func25, Tryd.ntmps25
        go_wp2_with (go_at_call 49; refine (HSP.out _).mono ?_; rintro _ W1 ⟨A, n, c, l, rfl, own, hl, B1⟩)
        go_ret2
        exact ⟨A, n, c, l, rfl, own, hl, B1⟩
      · rw [if_neg h10]
        have he : (((s[s.size - 1]'(by omega)).toNat : Int) == 10) = false := by simpa using h10
        clear h10
        go_enter Tryd.func25, Tryd.ntmps25
        go_wp2
        go_ret2
        exact GivesE.none_ BB

end Go.Proofs.YthancgnmbmempaaDoor
