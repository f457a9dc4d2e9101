/- The walk of FormatLines. -/
import Derived.Test.YthancgnmbmempaaDoorF21
namespace Go.Proofs.YthancgnmbmempaaDoor
open Go.RowKit Go.Sort

/-- Lines with a line feed after each. -/
def fl (l : List ByteArray) : List Int := l.flatMap fun s => strL s ++ [10]

theorem fl_map (l : List ByteArray) : fl l = (l.map strL).flatMap (· ++ [10]) := by
  unfold fl
  rw [List.flatMap_map]

theorem fl_on {l : List ByteArray} {s acc : ByteArray} {k : Nat} {T : List Int} (h : strL acc ++ fl (l.drop k) = T) (hs : l[k]? = some s) :
    strL (acc ++ s ++ ⟨#[10]⟩) ++ fl (l.drop (k + 1)) = T ∧ acc.size + s.size + 1 ≤ T.length := by
  rw [drop_cut hs] at h
  unfold fl at h ⊢
  rw [List.flatMap_cons] at h
  refine ⟨?_, ?_⟩
  · rw [← h, strL_append, strL_append]
    simp only [List.append_assoc]
    rfl
  · have := congrArg List.length h
    simp only [List.length_append, strL_len, List.length_singleton] at this
    omega

/-- The lines of a text: none if it is not accepted. -/
theorem slin_none {L : List Int} (h : (slin L).2 ≠ 0) : (slin L).1 = [] := by
  unfold slin at h ⊢
  split
  · rfl
  · split
    · rfl
    · split
      · rename_i h1 h2 h3
        rw [if_neg h1, if_neg h2, if_pos h3] at h
        simp at h
      · rfl

theorem slin_room (L : List Int) : (slin L).1.length ≤ L.length + 1 := by
  have := (sp_room 10 L.dropLast []).1
  rw [List.length_dropLast] at this
  unfold slin
  split
  · simp
  · split
    · simp
    · split
      · simp only; omega
      · simp

theorem slin_big {L : List Int} (h : 16384 < L.length) : slin L = ([], 5) := by unfold slin; rw [if_pos h]

set_option maxRecDepth 100000 in
set_option maxHeartbeats 4000000 in
theorem lines_walk (s : ByteArray) (w : World) (LL : Lay6 w) (hs : s.size ≤ 9223372036854775807) :
    Calls Tryd.prog 7 #[.string s] w fun e w' => e = .returned (.bool true) ∧ Below w.heap.size w w' := by
  have BB : Below w.heap.size w w := Below.refl _ _
  have c4 := fun W L => splitLines_b s W L hs
  have c5 := fun W => (rsplitLines_b s W hs).mono fun _ _ h => GivesE.gives h
  obtain ⟨T, hT⟩ : ∃ T, slin (strL s) = T := ⟨_, rfl⟩
  have hroom := slin_room (strL s)
  have hnone := @slin_none (strL s)
  have hjoin := @lines_join (strL s)
  have hbig := @slin_big (strL s)
  rw [strL_len] at hbig
  rw [hT] at c4 c5 hroom hnone hjoin hbig
  rw [strL_len] at hroom
  clear hT
  obtain ⟨P, er⟩ := T
  simp only at hroom hnone hjoin
  have C4 := Lib.hid c4
  have C5 := Lib.hid c5
  have HR := Lib.hid hroom
  clear c4 c5 hroom
  have hsz : (2000 < s.size ∧ s.size ≤ 16384) ∨ 16384 < s.size ∨ s.size ≤ 2000 := by omega
  rcases hsz with ⟨h1, h2⟩ | h1 | h1
  · clear hnone hjoin hbig
    go_enter Tryd.func7, Tryd.ntmps7
    go_wp2_with (first
      | (go_at_call 24; (with_reducible refine (C4.out _ LL).mono ?_); rintro _ W1 ⟨A1, m1, c1, l1, rfl, R1, _, hl1, B⟩; clear R1 hl1; replace LL := LL.on B; replace BB := bon BB B; clear B)
      | (go_at_call 10; (with_reducible refine (example_b _ LL).mono ?_); rintro _ _ ⟨rfl, B⟩; replace LL := LL.on B; replace BB := bon BB B; clear B))
    go_ret
    exact ⟨rfl, BB⟩
  · have hb := hbig h1
    simp only [Prod.mk.injEq] at hb
    obtain ⟨rfl, rfl⟩ := hb
    clear hnone hjoin hbig
    go_enter Tryd.func7, Tryd.ntmps7
    go_wp2_with (first
      | (go_at_call 24; (with_reducible refine (C4.out _ LL).mono ?_); rintro _ W1 ⟨A1, m1, c1, l1, rfl, R1, _, hl1, B⟩; obtain rfl : m1 = 0 := (by rw [← R1.len, List.map_eq_nil_iff.1 hl1]; rfl); clear R1 hl1; replace LL := LL.on B; replace BB := bon BB B; clear B)
      | (go_at_call 10; (with_reducible refine (example_b _ LL).mono ?_); rintro _ _ ⟨rfl, B⟩; replace LL := LL.on B; replace BB := bon BB B; clear B))
    go_ret
    exact ⟨rfl, BB⟩
  · obtain ⟨Z, hZ⟩ : ∃ Z, P.flatMap (· ++ [(10 : Int)]) = Z := ⟨_, rfl⟩
    have hz : (er = 0 ∧ Z = strL s) ∨ (¬ er = 0 ∧ Z = []) := by
      by_cases he : er = 0
      · exact .inl ⟨he, by rw [← hZ]; exact hjoin he⟩
      · exact .inr ⟨he, by rw [← hZ, hnone he]; rfl⟩
    have hzl : Z.length ≤ 2000 := by
      rcases hz with ⟨_, rfl⟩ | ⟨_, rfl⟩
      · rw [strL_len]; exact h1
      · simp
    have HZ := Lib.hid hZ
    have HW := Lib.hid hz
    clear hnone hjoin hbig hZ hz
    go_enter Tryd.func7, Tryd.ntmps7
    go_wp2_with (first
      | (go_at_call 24; (with_reducible refine (C4.out _ LL).mono ?_); rintro _ W1 ⟨A1, m1, c1, l1, rfl, R1, _, hl1, B⟩; have RR1 := Lib.hid R1; have HL1 := Lib.hid hl1; clear R1 hl1; replace LL := LL.on B; replace BB := bon BB B; clear B)
      | (go_at_call 25; (with_reducible refine (C5.out _).mono ?_); rintro _ W2 ⟨A2, m2, c2, l2, rfl, R2, _, hl2, B⟩; have RR2 := Lib.hid R2; have HL2 := Lib.hid hl2; have RR3 := Lib.hid (RR1.out.on B); clear R2 hl2; replace LL := LL.on B; replace BB := bon BB B; clear B))
    have hm := m_room RR1.out.len HL1.out HR.out (by omega)
    have hf : fl l1 = Z := by rw [fl_map, HL1.out]; exact HZ.out
    have HF := Lib.hid hf
    clear hf
    go_loop [7, 8] (fun t i => ∃ (k : Nat) (acc : ByteArray), k ≤ m1 ∧ i = .int .i64 k ∧ t = .string acc ∧ strL acc ++ fl (l1.drop k) = Z) (fun _ i => m1 - (intOf i).toNat)
    case atStart => exact ⟨0, ⟨#[]⟩, Nat.zero_le _, rfl, rfl, HF.out⟩
    case round =>
      obtain ⟨k, acc, hk, rfl, rfl, hh⟩ := hrel
      by_cases hlt : k < m1
      · obtain ⟨b, off, x, rfl, _, cx, hx⟩ := RR3.out.at_ hlt
        obtain ⟨g1, g2⟩ := fl_on hh hx.out
        have G1 := Lib.hid g1
        have g3 : acc.size + x.size + 1 ≤ 2000 := by omega
        clear hh g1 g2
        go_wp2
        go_round
        case rel => exact ⟨k + 1, _, by omega, by go_num, rfl, G1.out⟩
        case measure => simp [intOf]; omega
      · obtain rfl : k = m1 := by omega
        have hacc : strL acc = Z := by rw [← hh, List.drop_eq_nil_of_le (by rw [RR1.out.len]; exact Nat.le_refl _)]; unfold fl; simp
        clear hh
        rcases HW.out with ⟨rfl, hz⟩ | ⟨he, hz⟩
        · obtain rfl : acc = s := str_ext (hacc.trans hz)
          clear hacc hz
          go_wp2_with (first
            | (go_at_call 23; (with_reducible refine (lsame_b _ _ _ _ _ _ _ _ l2 _ (strL_inj (HL1.out.trans HL2.out.symm) ▸ RR3.out) RR2.out (Nat.le_refl _) (Nat.le_refl _) hm).mono ?_); rintro _ _ ⟨rfl, B⟩; replace LL := LL.on B; replace BB := bon BB B; clear B)
            | (go_at_call 10; (with_reducible refine (example_b _ LL).mono ?_); rintro _ _ ⟨rfl, B⟩; replace LL := LL.on B; replace BB := bon BB B; clear B))
          go_ret
          exact ⟨rfl, BB⟩
        · have hne : (er != 0) = true := by simpa using he
          clear hacc hz
          go_wp2_with (first
            | (go_at_call 23; (with_reducible refine (lsame_b _ _ _ _ _ _ _ _ l2 _ (strL_inj (HL1.out.trans HL2.out.symm) ▸ RR3.out) RR2.out (Nat.le_refl _) (Nat.le_refl _) hm).mono ?_); rintro _ _ ⟨rfl, B⟩; replace LL := LL.on B; replace BB := bon BB B; clear B)
            | (go_at_call 10; (with_reducible refine (example_b _ LL).mono ?_); rintro _ _ ⟨rfl, B⟩; replace LL := LL.on B; replace BB := bon BB B; clear B))
          go_ret
          exact ⟨rfl, BB⟩

end Go.Proofs.YthancgnmbmempaaDoor
