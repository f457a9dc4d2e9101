/- What Apply of the reference returns. -/
import Derived.Test.YtjlgekfgldmkhaaP4
namespace Go.Proofs.Ytjlgekfgldmkhaa
open Go.RowKit Go.Sort

theorem app_nil {α : Type} (l : List α) : app l [] = some [] := rfl
theorem app_bad {α : Type} {l : List α} {i : Int} {r : List Int} (h : ¬ (0 ≤ i ∧ i < l.length)) : app l (i :: r) = none := by rw [app, if_neg h]
theorem app_good {α : Type} {l : List α} {i : Nat} {x : α} {r : List Int} (h : l[i]? = some x) : app l ((i : Int) :: r) = (app l r).map (x :: ·) := by
  have hi : i < l.length := by
    rcases Nat.lt_or_ge i l.length with h' | h'
    · exact h'
    · rw [List.getElem?_eq_none h'] at h; cases h
  rw [app, if_pos (by omega), Int.toNat_natCast, h]
  cases app l r <;> rfl

theorem app_on {α : Type} {l acc : List α} {o : List Int} {k i : Nat} {x : α} {T : Option (List α)} (h : (app l (o.drop k)).map (acc ++ ·) = T) (ho : o[k]? = some (i : Int)) (hx : l[i]? = some x) :
    (app l (o.drop (k + 1))).map ((acc ++ [x]) ++ ·) = T := by
  rw [← h, icut ho, app_good hx, Option.map_map]
  congr 1
  funext y
  simp

theorem app_none {α : Type} {l acc : List α} {o : List Int} {k : Nat} {i : Int} {T : Option (List α)} (h : (app l (o.drop k)).map (acc ++ ·) = T) (ho : o[k]? = some i) (hi : ¬ (0 ≤ i ∧ i < l.length)) : T = none := by
  rw [← h, icut ho, app_bad hi]
  rfl

/-- What a call of Apply gives. -/
def GivesA (W : World) (T : Option (List Int)) (x : Ending) (w' : World) : Prop :=
  ∃ A n c, x = .returned (.slice A n c) ∧ Own w' W.heap.size 3 .i64 A n c (T.getD []) ∧ Below W.heap.size W w'

theorem GivesA.none_ {W w' : World} (B : Below W.heap.size W w') : GivesA W none (.returned (.slice none 0 0)) w' :=
  ⟨none, 0, 0, rfl, ⟨World.ownsRow_nil _ _ _ _, by simp, B.size⟩, B⟩

set_option maxRecDepth 100000 in
set_option maxHeartbeats 1000000 in
theorem rapply_b (A1 A2 : Option Addr) (n1 c1 n2 c2 : Nat) (l o : List Int) (w : World) (R1 : Rd w w.heap.size .i64 A1 n1 l) (R2 : Rd w w.heap.size .i64 A2 n2 o) (h2 : n2 * 8 ≤ 140737488351232) :
    Calls Try.prog 23 #[.slice A1 n1 c1, .slice A2 n2 c2] w (GivesA w (app l o)) := by
  have BB : Below w.heap.size w w := Below.refl _ _
  have HL1 := Lib.hid R1.len
  have HL2 := Lib.hid R2.len
  have RR1 := Lib.hid R1
  have RR2 := Lib.hid R2
  obtain ⟨T, hT⟩ : ∃ T, app l o = T := ⟨_, rfl⟩
  rw [hT]
  have HT := Lib.hid hT
  clear hT R1 R2
  go_enter Try.func23, Try.ntmps23
  go_wp2
  go_loopw [5, 6] (fun t i wr => ∃ (k cap : Nat) (A' : Option Addr) (acc : List Int), k ≤ n2 ∧ i = .int .i64 k ∧ t = .slice A' k cap ∧ Own wr w.heap.size 3 .i64 A' k cap acc ∧ (app l (o.drop k)).map (acc ++ ·) = T ∧ Below w.heap.size w wr) (fun _ i _ => n2 - (intOf i).toNat)
  case atStart => exact ⟨0, 0, none, [], by omega, rfl, rfl, Own.nil w _ _, by rw [← HT.out, List.drop_zero]; cases app l o <;> rfl, BB⟩
  case round =>
    clear BB
    obtain ⟨k, cap, A', acc, hk, rfl, rfl, own, hh, BB⟩ := hrel
    have OWN := Lib.hid own
    clear own
    by_cases hlt : k < n2
    · obtain ⟨b, off, y, rfl, cy, y0, y1, hy⟩ := (RR2.out.below BB).int hlt
      by_cases hbad : ¬ (0 ≤ y ∧ y < l.length)
      · have hn := app_none hh hy.out hbad
        subst hn
        rw [HL1.out] at hbad
        clear hh hy
        by_cases hy0 : y < 0
        · go_wp2
          go_ret
          exact GivesA.none_ BB
        · have hge : (n1 : Int) ≤ y := by omega
          have hy2 : 0 ≤ y := by omega
          clear hbad
          go_wp2
          go_ret
          exact GivesA.none_ BB
      · obtain ⟨i, rfl⟩ : ∃ i : Nat, y = i := ⟨y.toNat, by omega⟩
        have hi : i < n1 := by rw [← HL1.out]; omega
        obtain ⟨b1, off1, x, rfl, cx, x0, x1, hx⟩ := (RR1.out.below BB).int hi
        have H1 := Lib.hid (app_on hh hy.out hx.out)
        have own := OWN.out
        clear hh hy hx hbad y0 y1
        go_wp2_with (at_builtin; refine wpList_app1 _ rfl _ _ _ rfl eI own rfl (by rw [i64_min, i64_max]; omega) rfl (by simp only [maxLen]; omega) (by omega) ?_; intro A1 m1 d1 W1 own1 B1; obtain rfl : m1 = k + 1 := app_len own own1)
        go_roundw
        case rel => exact ⟨k + 1, d1, A1, _, by omega, by go_num, rfl, own1, H1.out, BB.trans B1⟩
        case measure => simp [intOf]; omega
    · obtain rfl : k = n2 := by omega
      have hf : T = some acc := by
        rw [← hh, List.drop_eq_nil_of_le (by rw [HL2.out]; exact Nat.le_refl _), app_nil]
        simp
      subst hf
      clear hh
      go_wp2
      go_ret
      exact ⟨A', _, cap, rfl, OWN.out, BB⟩

end Go.Proofs.Ytjlgekfgldmkhaa
