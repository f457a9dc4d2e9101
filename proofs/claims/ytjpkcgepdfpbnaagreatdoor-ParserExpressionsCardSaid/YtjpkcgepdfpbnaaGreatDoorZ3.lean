/- digit, letter, Lines of the reference. -/
import Derived.Test.YtjpkcgepdfpbnaaGreatDoorZ2
namespace Go.Proofs.YtjpkcgepdfpbnaaGreatDoor
open Go.RowKit Go.Sort
set_option linter.unusedVariables false

theorem rdigit_q (b : Int) (w : World) : Calls Tryz.prog 57 #[.int .u8 b] w fun e w' => e = .returned (.bool (isDig b)) ∧ w = w' := by
  obtain ⟨r, hr⟩ : ∃ r, isDig b = r := ⟨_, rfl⟩
  rw [hr]
  unfold isDig at hr
  by_cases h1 : 48 ≤ b <;> by_cases h2 : b ≤ 57
  all_goals
    simp only [h1, h2, decide_true, decide_false, Bool.and_self, Bool.and_true, Bool.and_false] at hr
    subst hr
    go_enter Tryz.func57, Tryz.ntmps57
    go_wp2
    go_ret
    exact ⟨rfl, rfl⟩

/-- Lines. -/
def lns (l : List Int) : Nat := l.count 10 + 1

theorem lns_snoc {l : List Int} {k : Nat} {x : Int} (h : l[k]? = some x) : lns (l.take (k + 1)) = lns (l.take k) + if x = 10 then 1 else 0 := by
  obtain ⟨hk, rfl⟩ := List.getElem?_eq_some_iff.1 h
  rw [List.take_succ_eq_append_getElem hk]
  unfold lns
  rw [List.count_append, List.count_singleton]
  by_cases q : l[k] = 10
  · rw [if_pos q, if_pos (by simpa using q)]
  · rw [if_neg q, if_neg (by simpa using q)]

theorem rLines_q (s : ByteArray) (w : World) (hs : s.size ≤ 4611686018427387904) : Calls Tryz.prog 56 #[.string s] w fun e w' => e = .returned (.int .i64 (lns (strL s) : Nat)) ∧ w = w' := by
  have HS : Hid (∀ k (h : k < s.size), lns ((strL s).take (k + 1)) = lns ((strL s).take k) + if ((s[k]).toNat : Int) = 10 then 1 else 0) := Lib.hid fun k h => lns_snoc (strL_at s k h)
  have HB : Hid (∀ k, k ≤ s.size → lns ((strL s).take k) ≤ k + 1) := Lib.hid fun k hk => by
    have h := List.count_le_length (a := (10 : Int)) (l := (strL s).take k)
    rw [List.length_take, strL_len] at h
    unfold lns
    omega
  have HE : Hid (lns ((strL s).take s.size) = lns (strL s)) := Lib.hid (by rw [← strL_len, List.take_length])
  have H0 : Hid (lns ((strL s).take 0) = 1) := Lib.hid rfl
  obtain ⟨U, hU⟩ : ∃ U : Nat → Nat, (fun k => lns ((strL s).take k)) = U := ⟨_, rfl⟩
  have hU' : ∀ k, lns ((strL s).take k) = U k := fun k => congrFun hU k
  obtain ⟨G, hG⟩ : ∃ G, lns (strL s) = G := ⟨_, rfl⟩
  rw [hG] at HE ⊢
  simp only [hU'] at HS HB HE H0
  clear hU hU' hG
  go_enter Tryz.func56, Tryz.ntmps56
  go_wp2
  go_loopw [3, 4] (fun u i wr => ∃ k : Nat, k ≤ s.size ∧ i = .int .i64 (k : Int) ∧ u = .int .i64 (U k : Nat) ∧ w = wr) (fun _ i _ => s.size - (intOf i).toNat)
  case atStart => exact ⟨0, by omega, rfl, by rw [H0.out]; rfl, by simp⟩
  case round =>
    obtain ⟨k, hk, rfl, rfl, rfl⟩ := hrel
    by_cases hlt : k < s.size
    · have h1 := HS.out k hlt
      have h2 := HB.out k hk
      obtain ⟨u, hu⟩ : ∃ u, U k = u := ⟨_, rfl⟩
      rw [hu] at h1 h2 ⊢
      clear hu
      by_cases q : ((s[k]).toNat : Int) = 10
      · rw [if_pos q] at h1
        have H1 := Lib.hid h1
        have q2 : (((s[k]).toNat : Int) == 10) = true := by simpa using q
        clear h1 q
        go_wp2
        go_roundw
        case rel => exact ⟨k + 1, by omega, by go_num, by rw [H1.out]; go_num, by simp⟩
        case measure => simp [intOf] <;> omega
      · rw [if_neg q] at h1
        have H1 := Lib.hid h1
        have q2 : (((s[k]).toNat : Int) == 10) = false := by simpa using q
        clear h1 q
        go_wp2
        go_roundw
        case rel => exact ⟨k + 1, by omega, by go_num, by rw [H1.out]; rfl, by simp⟩
        case measure => simp [intOf] <;> omega
    · obtain rfl : k = s.size := by omega
      have he := HE.out
      rw [he]
      clear HS HB HE he
      go_wp2
      go_ret
      exact ⟨rfl, rfl⟩

end Go.Proofs.YtjpkcgepdfpbnaaGreatDoor
