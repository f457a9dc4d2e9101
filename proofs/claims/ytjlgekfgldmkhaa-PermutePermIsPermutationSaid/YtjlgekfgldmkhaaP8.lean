/- What Apply of package permute returns, of ints and of strings (all indices are looked at first; then a made list, filled index by index). -/
import Derived.Test.YtjlgekfgldmkhaaP7
import Derived.Test.YtjlgekfgldmkhaaStrsOwn
namespace Go.Proofs.Ytjlgekfgldmkhaa
open Go.RowKit Go.Sort

theorem app_some_in {α : Type} {l : List α} {o : List Int} {k : Nat} {i : Int} {T : Option (List α)} (h : app l o = T) (ho : o[k]? = some i) (hi : ¬ (0 ≤ i ∧ i < l.length)) : T = none := by
  induction o generalizing k T with
  | nil => simp at ho
  | cons a r ih =>
    subst h
    by_cases ha : 0 ≤ a ∧ a < l.length
    · cases k with
      | zero =>
        simp at ho
        subst ho
        exact absurd ha hi
      | succ m =>
        have hr := ih rfl (k := m) (by simpa using ho)
        rw [app, if_pos ha, hr]
        cases l[a.toNat]? <;> rfl
    · exact app_bad ha

theorem isIndexYesS (A : Option Addr) (n c : Nat) (x : Int) (w : World) (h0 : 0 ≤ x) (h1 : x < n) :
    Calls Try.prog 27 #[.slice A n c, .int .i64 x] w fun e w' => e = .returned (.bool true) ∧ w = w' := by
  go_enter Try.func27, Try.ntmps27
  go_wp2
  go_ret
  exact ⟨rfl, rfl⟩

theorem isIndexNoS (A : Option Addr) (n c : Nat) (x : Int) (w : World) (h : ¬ (0 ≤ x ∧ x < n)) :
    Calls Try.prog 27 #[.slice A n c, .int .i64 x] w fun e w' => e = .returned (.bool false) ∧ w = w' := by
  by_cases h0 : 0 ≤ x
  · have h1 : (n : Int) ≤ x := by omega
    clear h
    go_enter Try.func27, Try.ntmps27
    go_wp2
    go_ret
    exact ⟨congrArg (fun b => Ending.returned (.bool b)) (decide_eq_false (by omega)), rfl⟩
  · clear h
    go_enter Try.func27, Try.ntmps27
    go_wp2
    go_ret
    exact ⟨rfl, rfl⟩

set_option maxRecDepth 100000 in
set_option maxHeartbeats 1000000 in
theorem apply_b (A1 A2 : Option Addr) (n1 c1 n2 c2 : Nat) (l o : List Int) (w : World) (R1 : Rd w w.heap.size .i64 A1 n1 l) (R2 : Rd w w.heap.size .i64 A2 n2 o) (_h1 : n1 ≤ 9223372036854775807) (h2 : n2 * 8 ≤ 140737488351232) :
    Calls Try.prog 22 #[.slice A1 n1 c1, .slice A2 n2 c2] w (GivesA w (app l o)) := by
  have BB : Below w.heap.size w w := Below.refl _ _
  have HL1 := Lib.hid R1.len
  have HL2 := Lib.hid R2.len
  have RR1 := Lib.hid R1
  have RR2 := Lib.hid R2
  obtain ⟨T, hT⟩ : ∃ T, app l o = T := ⟨_, rfl⟩
  rw [hT]
  have HT := Lib.hid hT
  clear hT R1 R2
  go_enter Try.func22, Try.ntmps22
  go_wp2
  go_loopw [12] (fun i wr => ∃ k : Nat, k ≤ n2 ∧ i = .int .i64 k ∧ (∀ m y, m < k → o[m]? = some y → 0 ≤ y ∧ y < l.length) ∧ w = wr) (fun i _ => n2 - (intOf i).toNat)
  case atStart => exact ⟨0, by omega, rfl, fun m y h => absurd h (by omega), rfl⟩
  case round =>
    obtain ⟨k, hk, rfl, hall, rfl⟩ := hrel
    have HALL := Lib.hid hall
    clear hall
    by_cases hlt : k < n2
    · obtain ⟨bo, off, y, rfl, cy, y0, y1, hy⟩ := RR2.out.int hlt
      by_cases hbad : ¬ (0 ≤ y ∧ y < l.length)
      · have hn := app_some_in HT.out hy.out hbad
        subst hn
        rw [HL1.out] at hbad
        have CI := Lib.hid (fun W => isIndexNo A1 n1 c1 y W hbad)
        clear hy hbad
        go_wp2_with (go_at_call 25; refine (CI.out _).mono ?_; rintro _ _ ⟨rfl, rfl⟩)
        go_ret
        exact GivesA.none_ BB
      · have H1 : Hid (∀ m z, m < k + 1 → o[m]? = some z → 0 ≤ z ∧ z < l.length) := Lib.hid (fun m z hm hz => by
          rcases Nat.lt_or_ge m k with h | h
          · exact HALL.out m z h hz
          · obtain rfl : m = k := by omega
            have := hy.out.symm.trans hz
            injection this with this
            subst this
            exact Classical.byContradiction hbad)
        have CI := Lib.hid (fun W => isIndexYes A1 n1 c1 y W (by omega) (by rw [← HL1.out]; omega))
        clear hy hbad
        go_wp2_with (go_at_call 25; refine (CI.out _).mono ?_; rintro _ _ ⟨rfl, rfl⟩)
        go_roundw
        case rel => exact ⟨k + 1, by omega, by go_num, H1.out, trivial⟩
        case measure => simp [intOf]; omega
    · obtain ⟨q, hq⟩ : ∃ q, k = q := ⟨_, rfl⟩
      subst hq
      have hkn : k = n2 := by omega
      go_wp2_with (refine wpList_makeV _ rfl _ _ _ rfl Try.underlying27 iI rfl .i64 .i64 n2 rfl rfl (by omega) (by simp only [maxLen]; omega) w.heap.size (Nat.le_refl _) ?_; intro b W1 own1 B1 hb)
      go_loopw [26] (fun i wr => ∃ (k2 : Nat) (acc : List Int), k2 ≤ n2 ∧ i = .int .i64 k2 ∧ acc.length = k2 ∧ (∀ x ∈ acc, IntKind.i64.min ≤ x ∧ x ≤ IntKind.i64.max) ∧ OwnV wr w.heap.size 3 b n2 n2 (acc.map (Value.int .i64) ++ List.replicate (n2 - k2) (.int .i64 0)) ∧ (app l (o.drop k2)).map (acc ++ ·) = T ∧ Below w.heap.size w wr) (fun i _ => n2 - (intOf i).toNat)
      case atStart => exact ⟨0, [], by omega, rfl, rfl, by simp, own1, by rw [← HT.out, List.drop_zero]; cases app l o <;> rfl, bon BB B1⟩
      case round =>
        clear BB own1 B1
        obtain ⟨k2, acc, hk, rfl, hal, har, own, hh, BB⟩ := hrel
        by_cases hlt : k2 < n2
        · obtain ⟨bo, off, y, rfl, cy, y0, y1, hy⟩ := (RR2.out.below BB).int hlt
          by_cases hbad : ¬ (0 ≤ y ∧ y < l.length)
          · exact absurd (HALL.out k2 y (by omega) hy.out) hbad
          · obtain ⟨i, rfl⟩ : ∃ i : Nat, y = i := ⟨y.toNat, by omega⟩
            have hi : i < n1 := by rw [← HL1.out]; omega
            obtain ⟨b1, off1, x, rfl, cx, x0, x1, hx⟩ := (RR1.out.below BB).int hi
            have H1 := Lib.hid (app_on hh hy.out hx.out)
            obtain ⟨m, hm⟩ : ∃ m, n2 - k2 = m + 1 := ⟨n2 - k2 - 1, by omega⟩
            rw [hm] at own
            have hz : (acc.map (Value.int .i64) ++ List.replicate (m + 1) (.int .i64 0))[k2]? = some (.int .i64 0) := by
              rw [List.getElem?_append_right (by simp [hal]), List.length_map, hal, Nat.sub_self]
              rfl
            have c1 := own.cell hz
            have f1 := own.frozen (j := k2)
            have own2 := (own.set (j := k2) (.int .i64 x)).1
            have B2 := (own.set (j := k2) (.int .i64 x)).2
            rw [fill_set _ _ _ _ _ (by simp [hal])] at own2
            have OWN2 : Hid (OwnV (wr.setCell ⟨b, k2, none⟩ (.int .i64 x)) w.heap.size 3 b n2 n2 ((acc ++ [x]).map (Value.int .i64) ++ List.replicate (n2 - (k2 + 1)) (.int .i64 0))) := Lib.hid (by rw [List.map_append, show n2 - (k2 + 1) = m by omega]; exact own2)
            have HAL : Hid ((acc ++ [x]).length = k2 + 1) := Lib.hid (by simp [hal])
            have HAR : Hid (∀ z ∈ acc ++ [x], IntKind.i64.min ≤ z ∧ z ≤ IntKind.i64.max) := Lib.hid (by
              intro z hz
              rcases List.mem_append.1 hz with hz | hz
              · exact har z hz
              · simp at hz; subst hz; rw [i64_min, i64_max]; omega)
            clear hh hy hx hbad y0 y1 own own2 hz hm hal har
            go_wp2
            go_roundw
            case rel => exact ⟨k2 + 1, _, by omega, by go_num, HAL.out, HAR.out, OWN2.out, H1.out, BB.trans B2⟩
            case measure => simp [intOf]; omega
        · obtain rfl : k2 = n2 := by omega
          have hf : T = some acc := by
            rw [← hh, List.drop_eq_nil_of_le (by rw [HL2.out]; exact Nat.le_refl _), app_nil]
            simp
          subst hf
          rw [Nat.sub_self, List.replicate_zero, List.append_nil] at own
          have OWN := Lib.hid (own.ints har)
          clear hh own har hal
          go_wp2
          go_ret
          exact ⟨_, _, _, rfl, OWN.out, BB⟩

theorem iS : (Try.prog.info? 9).map (fun i => (i.zero, i.size, i.bytes)) = some (some (.string ⟨#[]⟩), 1, 16) := by kernel_rfl

/-- What a call of Apply over strings gives. -/
def GivesAS (W : World) (T : Option (List ByteArray)) (x : Ending) (w' : World) : Prop :=
  ∃ A n c, x = .returned (.slice A n c) ∧ RdS w' w'.heap.size A n (T.getD []) ∧ n ≤ c ∧ Below W.heap.size W w'

theorem GivesAS.none_ {W w' : World} (B : Below W.heap.size W w') : GivesAS W none (.returned (.slice none 0 0)) w' :=
  ⟨none, 0, 0, rfl, RdS.nil _ _ _, Nat.le_refl _, B⟩

theorem OwnV.strs {w : World} {b n c base : Nat} {e : TypeId} {l : List ByteArray} (h : OwnV w base e b n c (l.map Value.string)) : OwnS w base e (some ⟨b, 0, none⟩) n c l := h

set_option maxRecDepth 100000 in
set_option maxHeartbeats 1000000 in
theorem applyS_b (A1 A2 : Option Addr) (n1 c1 n2 c2 : Nat) (l : List ByteArray) (o : List Int) (w : World) (R1 : RdS w w.heap.size A1 n1 l) (R2 : Rd w w.heap.size .i64 A2 n2 o) (_h1 : n1 ≤ 9223372036854775807) (h2 : n2 * 16 ≤ 140737488351232) :
    Calls Try.prog 24 #[.slice A1 n1 c1, .slice A2 n2 c2] w (GivesAS w (app l o)) := by
  have BB : Below w.heap.size w w := Below.refl _ _
  have HL1 := Lib.hid R1.len
  have HL2 := Lib.hid R2.len
  have RR1 := Lib.hid R1
  have RR2 := Lib.hid R2
  obtain ⟨T, hT⟩ : ∃ T, app l o = T := ⟨_, rfl⟩
  rw [hT]
  have HT := Lib.hid hT
  clear hT R1 R2
  go_enter Try.func24, Try.ntmps24
  go_wp2
  go_loopw [12] (fun i wr => ∃ k : Nat, k ≤ n2 ∧ i = .int .i64 k ∧ (∀ m y, m < k → o[m]? = some y → 0 ≤ y ∧ y < l.length) ∧ w = wr) (fun i _ => n2 - (intOf i).toNat)
  case atStart => exact ⟨0, by omega, rfl, fun m y h => absurd h (by omega), rfl⟩
  case round =>
    obtain ⟨k, hk, rfl, hall, rfl⟩ := hrel
    have HALL := Lib.hid hall
    clear hall
    by_cases hlt : k < n2
    · obtain ⟨bo, off, y, rfl, cy, y0, y1, hy⟩ := RR2.out.int hlt
      by_cases hbad : ¬ (0 ≤ y ∧ y < l.length)
      · have hn := app_some_in HT.out hy.out hbad
        subst hn
        rw [HL1.out] at hbad
        have CI := Lib.hid (fun W => isIndexNoS A1 n1 c1 y W hbad)
        clear hy hbad
        go_wp2_with (go_at_call 27; refine (CI.out _).mono ?_; rintro _ _ ⟨rfl, rfl⟩)
        go_ret
        exact GivesAS.none_ BB
      · have H1 : Hid (∀ m z, m < k + 1 → o[m]? = some z → 0 ≤ z ∧ z < l.length) := Lib.hid (fun m z hm hz => by
          rcases Nat.lt_or_ge m k with h | h
          · exact HALL.out m z h hz
          · obtain rfl : m = k := by omega
            have := hy.out.symm.trans hz
            injection this with this
            subst this
            exact Classical.byContradiction hbad)
        have CI := Lib.hid (fun W => isIndexYesS A1 n1 c1 y W (by omega) (by rw [← HL1.out]; omega))
        clear hy hbad
        go_wp2_with (go_at_call 27; refine (CI.out _).mono ?_; rintro _ _ ⟨rfl, rfl⟩)
        go_roundw
        case rel => exact ⟨k + 1, by omega, by go_num, H1.out, trivial⟩
        case measure => simp [intOf]; omega
    · obtain ⟨q, hq⟩ : ∃ q, k = q := ⟨_, rfl⟩
      subst hq
      have hkn : k = n2 := by omega
      go_wp2_with (refine wpList_makeV _ rfl _ _ _ rfl Try.underlying41 iS rfl .i64 .i64 n2 rfl rfl (by omega) (by simp only [maxLen]; omega) w.heap.size (Nat.le_refl _) ?_; intro b W1 own1 B1 hb)
      go_loopw [26] (fun i wr => ∃ (k2 : Nat) (acc : List ByteArray), k2 ≤ n2 ∧ i = .int .i64 k2 ∧ acc.length = k2 ∧ OwnV wr w.heap.size 9 b n2 n2 (acc.map Value.string ++ List.replicate (n2 - k2) (.string ⟨#[]⟩)) ∧ (app l (o.drop k2)).map (acc ++ ·) = T ∧ Below w.heap.size w wr) (fun i _ => n2 - (intOf i).toNat)
      case atStart => exact ⟨0, [], by omega, rfl, rfl, own1, by rw [← HT.out, List.drop_zero]; cases app l o <;> rfl, bon BB B1⟩
      case round =>
        clear BB own1 B1
        obtain ⟨k2, acc, hk, rfl, hal, own, hh, BB⟩ := hrel
        by_cases hlt : k2 < n2
        · obtain ⟨bo, off, y, rfl, cy, y0, y1, hy⟩ := (RR2.out.below BB).int hlt
          by_cases hbad : ¬ (0 ≤ y ∧ y < l.length)
          · exact absurd (HALL.out k2 y (by omega) hy.out) hbad
          · obtain ⟨i, rfl⟩ : ∃ i : Nat, y = i := ⟨y.toNat, by omega⟩
            have hi : i < n1 := by rw [← HL1.out]; omega
            obtain ⟨b1, off1, x, rfl, hb1, cx, hx⟩ := (RR1.out.below BB).at_ hi
            have H1 := Lib.hid (app_on hh hy.out hx.out)
            obtain ⟨m, hm⟩ : ∃ m, n2 - k2 = m + 1 := ⟨n2 - k2 - 1, by omega⟩
            rw [hm] at own
            have hz : (acc.map Value.string ++ List.replicate (m + 1) (.string ⟨#[]⟩))[k2]? = some (.string ⟨#[]⟩) := by
              rw [List.getElem?_append_right (by simp [hal]), List.length_map, hal, Nat.sub_self]
              rfl
            have c1 := own.cell hz
            have f1 := own.frozen (j := k2)
            have own2 := (own.set (j := k2) (.string x)).1
            have B2 := (own.set (j := k2) (.string x)).2
            rw [fill_set _ _ _ _ _ (by simp [hal])] at own2
            have OWN2 : Hid (OwnV (wr.setCell ⟨b, k2, none⟩ (.string x)) w.heap.size 9 b n2 n2 ((acc ++ [x]).map Value.string ++ List.replicate (n2 - (k2 + 1)) (.string ⟨#[]⟩))) := Lib.hid (by rw [List.map_append, show n2 - (k2 + 1) = m by omega]; exact own2)
            have HAL : Hid ((acc ++ [x]).length = k2 + 1) := Lib.hid (by simp [hal])
            clear hh hy hx hbad y0 y1 own own2 hz hm hal
            go_wp2
            go_roundw
            case rel => exact ⟨k2 + 1, _, by omega, by go_num, HAL.out, OWN2.out, H1.out, BB.trans B2⟩
            case measure => simp [intOf]; omega
        · obtain rfl : k2 = n2 := by omega
          have hf : T = some acc := by
            rw [← hh, List.drop_eq_nil_of_le (by rw [HL2.out]; exact Nat.le_refl _), app_nil]
            simp
          subst hf
          rw [Nat.sub_self, List.replicate_zero, List.append_nil] at own
          have OWN := Lib.hid own.strs
          clear hh own hal
          go_wp2
          go_ret
          exact ⟨_, _, _, rfl, OWN.out.rd, OWN.out.room, BB⟩

end Go.Proofs.Ytjlgekfgldmkhaa
