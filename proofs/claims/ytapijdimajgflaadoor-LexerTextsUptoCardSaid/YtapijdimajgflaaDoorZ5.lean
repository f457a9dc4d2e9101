/- Lines of the program. -/
import Derived.Test.YtapijdimajgflaaDoorZ4
import Derived.Test.YtapijdimajgflaaDoorShelf
namespace Go.Proofs.YtapijdimajgflaaDoor
open Go.RowKit Go.Sort
set_option linter.unusedVariables false

theorem countByte_eq (l : List UInt8) : Lib.countByte l 10 = (l.map fun b => (b.toNat : Int)).count 10 := by
  induction l with
  | nil => rfl
  | cons a l ih =>
    have e : Lib.countByte (a :: l) 10 = (if a = 10 then 1 else 0) + Lib.countByte l 10 := by
      unfold Lib.countByte
      by_cases h : a = 10 <;> simp [h] <;> omega
    rw [e, ih, List.map_cons, List.count_cons]
    by_cases h : a = 10
    · subst h
      rw [if_pos rfl, if_pos (by decide)]
      omega
    · have h2 : ¬ ((a.toNat : Int) = 10) := fun q => h (UInt8.toNat_inj.1 ((show a.toNat = 10 by omega).trans rfl))
      rw [if_neg h, if_neg (by simpa using h2)]
      omega

theorem lines_q (s : ByteArray) (w : World) (hs : s.size ≤ 4611686018427387904) : Calls Tryd.prog 19 #[.string s] w fun e w' => e = .returned (.int .i64 (lns (strL s) : Nat)) ∧ w = w' := by
  have C1 := Lib.hid (fun W => Tryd.strings_Count_one s 10 W)
  have hc := countByte_eq s.data.toList
  have hl := List.count_le_length (a := (10 : Int)) (l := strL s)
  rw [strL_len] at hl
  unfold lns
  have hc2 : Lib.countByte s.data.toList 10 = (strL s).count 10 := hc
  rw [hc2] at C1
  obtain ⟨u, hu⟩ : ∃ u, (strL s).count 10 = u := ⟨_, rfl⟩
  rw [hu] at C1 hl ⊢
  clear hc hc2 hu
  go_enter Tryd.func19, Tryd.ntmps19
  go_wp2_with (go_at_call 30; (refine (C1.out _).mono ?_); rintro _ _ ⟨rfl, rfl⟩)
  go_ret
  exact ⟨by go_num, rfl⟩

end Go.Proofs.YtapijdimajgflaaDoor
