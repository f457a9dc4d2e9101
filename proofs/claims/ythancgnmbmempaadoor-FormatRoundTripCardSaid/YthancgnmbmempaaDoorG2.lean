/- What the helpers of package format over bytes return: the classes of bytes, every, isDigits, isNatural, isField, IsName. -/
import Derived.Test.YthancgnmbmempaaDoorG1
import Derived.Test.YthancgnmbmempaaDoorF5
import Derived.Shelf.Abstract
namespace Go.Proofs.YthancgnmbmempaaDoor
open Go.RowKit Go.Sort

/-- A digit. -/
def digB (x : Int) : Bool := decide (48 ≤ x) && decide (x ≤ 57)

theorem dgs_all (l : List Int) : dgs l = l.all digB := rfl

theorem isDigit_q (x : Int) (w : World) : Calls Tryd.prog 62 #[.int .u8 x] w fun e w' => e = .returned (.bool (digB x)) ∧ w = w' := by
  have hc : x < 48 ∨ (48 ≤ x ∧ x ≤ 57) ∨ (48 ≤ x ∧ 57 < x) := by omega
  have HB : Hid (digB x = (decide (48 ≤ x) && decide (x ≤ 57))) := Lib.hid rfl
  rcases hc with hc | ⟨hc, hd⟩ | ⟨hc, hd⟩
  all_goals
    go_enter Tryd.func62, Tryd.ntmps62
    go_wp2
    go_ret
    refine ⟨ret_bool' ?_, rfl⟩
    rw [HB.out, Bool.eq_iff_iff]
    simp
    try omega

theorem isVisible_q (x : Int) (w : World) : Calls Tryd.prog 68 #[.int .u8 x] w fun e w' => e = .returned (.bool (fbyte x)) ∧ w = w' := by
  have hc : x < 33 ∨ (33 ≤ x ∧ x ≤ 126) ∨ (33 ≤ x ∧ 126 < x) := by omega
  have HB : Hid (fbyte x = (decide (33 ≤ x) && decide (x ≤ 126))) := Lib.hid rfl
  rcases hc with hc | ⟨hc, hd⟩ | ⟨hc, hd⟩
  all_goals
    go_enter Tryd.func68, Tryd.ntmps68
    go_wp2
    go_ret
    refine ⟨ret_bool' ?_, rfl⟩
    rw [HB.out, Bool.eq_iff_iff]
    simp
    try omega

theorem isNameStart_q (x : Int) (w : World) : Calls Tryd.prog 51 #[.int .u8 x] w fun e w' => e = .returned (.bool (letB x)) ∧ w = w' := by
  have hc : x < 65 ∨ (65 ≤ x ∧ x ≤ 90) ∨ (90 < x ∧ x < 97) ∨ (97 ≤ x ∧ x ≤ 122) ∨ 122 < x := by omega
  have HB : Hid (letB x = (decide (97 ≤ x ∧ x ≤ 122) || decide (65 ≤ x ∧ x ≤ 90) || decide (x = 95))) := Lib.hid rfl
  rcases hc with hc | ⟨hc, hd⟩ | ⟨hc, hd⟩ | ⟨hc, hd⟩ | hc
  all_goals
    go_enter Tryd.func51, Tryd.ntmps51
    go_wp2
    go_ret
    refine ⟨ret_bool' ?_, rfl⟩
    rw [HB.out, Bool.eq_iff_iff]
    simp
    try omega

theorem isNamePart_q (x : Int) (w : World) : Calls Tryd.prog 53 #[.int .u8 x] w fun e w' => e = .returned (.bool (latB x)) ∧ w = w' := by
  have c1 := fun W => isNameStart_q x W
  have c2 := fun W => isDigit_q x W
  have HB : Hid (latB x = (letB x || digB x)) := Lib.hid rfl
  cases h1 : letB x
  · cases h2 : digB x
    all_goals
      rw [h1] at c1 HB
      rw [h2] at c2 HB
      have C1 := Lib.hid c1
      have C2 := Lib.hid c2
      clear c1 c2 h1 h2
      go_enter Tryd.func53, Tryd.ntmps53
      go_wp2_with (first
        | (go_at_call 51; refine (C1.out _).mono ?_; rintro _ _ ⟨rfl, rfl⟩)
        | (go_at_call 62; refine (C2.out _).mono ?_; rintro _ _ ⟨rfl, rfl⟩))
      go_ret
      exact ⟨ret_bool' HB.out.symm, rfl⟩
  · rw [h1] at c1 HB
    have C1 := Lib.hid c1
    clear c1 c2 h1
    go_enter Tryd.func53, Tryd.ntmps53
    go_wp2_with (go_at_call 51; refine (C1.out _).mono ?_; rintro _ _ ⟨rfl, rfl⟩)
    go_ret
    exact ⟨ret_bool' HB.out.symm, rfl⟩

/-- What is asked of a class of bytes. -/
def Cls (g : Nat) (p : Int → Bool) : Prop := ∀ (x : Int) (W : World), Calls Tryd.prog g #[.int .u8 x] W fun e w' => e = .returned (.bool (p x)) ∧ W = w'

theorem alls_on {p : Int → Bool} {l : List Int} {k : Nat} {x : Int} {b : Bool} (h : Hid ((l.drop k).all p = b)) (hx : l[k]? = some x) : (p x && (l.drop (k + 1)).all p) = b := by
  rw [← h.out, pnt_on.list_cut hx, List.all_cons]

set_option maxRecDepth 100000 in
theorem every_q (g : Nat) (p : Int → Bool) (s : ByteArray) (w : World) (eg : Enters Tryd.prog g) (hp : Cls g p) (hs : s.size ≤ 9223372036854775807) :
    Calls Tryd.prog 52 #[.string s, .func (.func g) #[] #[]] w fun e w' => e = .returned (.bool ((strL s).all p)) ∧ w = w' := by
  obtain ⟨nb, hnb⟩ : ∃ b, (strL s).all p = b := ⟨_, rfl⟩
  rw [hnb]
  have HN := Lib.hid hnb
  have HP := Lib.hid hp
  unfold Enters at eg
  clear hnb hp
  go_enter Tryd.func52, Tryd.ntmps52
  go_wp2
  go_loop [8] (fun i => ∃ k : Nat, k ≤ s.size ∧ i = .int .i64 k ∧ ((strL s).drop k).all p = nb) (fun i => s.size - (intOf i).toNat)
  case atStart => exact ⟨0, by omega, rfl, HN.out⟩
  case round =>
    obtain ⟨k, hk, rfl, hall⟩ := hrel
    have HA := Lib.hid hall
    clear hall
    by_cases hlt : k < s.size
    · have ha := alls_on HA (strL_at s k hlt)
      have hc := HP.out ((s[k]).toNat : Int)
      cases hb : p ((s[k]).toNat : Int)
      · rw [hb] at hc ha
        have e : nb = false := by rw [← ha]; rfl
        subst e
        have HC := Lib.hid hc
        clear hc hb ha
        go_wp2_with (go_at_fn g; refine (HC.out _).mono ?_; rintro _ _ ⟨rfl, rfl⟩)
        go_ret
        exact ⟨rfl, rfl⟩
      · rw [hb] at hc ha
        have HC := Lib.hid hc
        have HA2 : Hid (((strL s).drop (k + 1)).all p = nb) := Lib.hid (by rw [← ha]; rfl)
        clear hc hb ha
        go_wp2_with (go_at_fn g; refine (HC.out _).mono ?_; rintro _ _ ⟨rfl, rfl⟩)
        go_round
        case rel => exact ⟨k + 1, by omega, by go_num, HA2.out⟩
        case measure => simp [intOf]; omega
    · obtain rfl : k = s.size := by omega
      have e : nb = true := by rw [← HA.out, List.drop_eq_nil_of_le (by rw [strL_len]; exact Nat.le_refl _)]; rfl
      subst e
      clear HA
      go_wp2
      go_ret
      exact ⟨rfl, rfl⟩

theorem str_nil {s : ByteArray} (h : s.size = 0) : s = ⟨#[]⟩ := str_ext (by rw [strL_empty]; exact List.eq_nil_of_length_eq_zero (by rw [strL_len]; exact h))

theorem ne_empty {s : ByteArray} (h : 0 < s.size) : s.toList.isEmpty = false ∧ (!s.toList.isEmpty) = true := by
  have : s.toList.isEmpty = false := by
    rw [ByteArray.toList_eq]
    cases h2 : s.data.toList with
    | nil => have h3 : s.data.toList.length = 0 := by rw [h2]; rfl
             rw [Array.length_toList] at h3
             have : s.size = s.data.size := rfl
             omega
    | cons => rfl
  exact ⟨this, by rw [this]; rfl⟩

theorem ent {f : Nat} {fn : Func} {c : Code} (hf : Tryd.prog.funcs[f]? = some fn) (hname : (fn.name == "runtime.NumGoroutine") = false) (hb : fn.body = some c) : Enters Tryd.prog f := enters_of hf hname hb

theorem e_isDigit : Enters Tryd.prog 62 := enters_of Tryd.func62 (by kernel_rfl) rfl
theorem e_isVisible : Enters Tryd.prog 68 := enters_of Tryd.func68 (by kernel_rfl) rfl
theorem e_isNamePart : Enters Tryd.prog 53 := enters_of Tryd.func53 (by kernel_rfl) rfl

/-- Digits, at least one. -/
def digsB (l : List Int) : Bool := dgs l && decide (0 < l.length)

theorem isDigits_q (s : ByteArray) (w : World) (hs : s.size ≤ 9223372036854775807) :
    Calls Tryd.prog 36 #[.string s] w fun e w' => e = .returned (.bool (digsB (strL s))) ∧ w = w' := by
  rcases Nat.eq_zero_or_pos s.size with h0 | h0
  · obtain rfl := str_nil h0
    clear h0
    go_enter Tryd.func36, Tryd.ntmps36
    go_wp2
    go_ret
    exact ⟨rfl, rfl⟩
  · obtain ⟨hne, hne2⟩ := ne_empty h0
    have HB : Hid ((strL s).all digB = digsB (strL s)) := Lib.hid (by unfold digsB; rw [strL_len, decide_eq_true h0, Bool.and_true]; rfl)
    have hc := fun W => every_q 62 digB s W e_isDigit isDigit_q hs
    rw [HB.out] at hc
    have HC := Lib.hid hc
    clear hc
    go_enter Tryd.func36, Tryd.ntmps36
    go_wp2_with (go_at_call 52; refine (HC.out _).mono ?_; rintro _ _ ⟨rfl, rfl⟩)
    go_ret
    exact ⟨rfl, rfl⟩

theorem isField_q (s : ByteArray) (w : World) (hs : s.size ≤ 9223372036854775807) :
    Calls Tryd.prog 40 #[.string s] w fun e w' => e = .returned (.bool (fok (strL s))) ∧ w = w' := by
  rcases Nat.eq_zero_or_pos s.size with h0 | h0
  · obtain rfl := str_nil h0
    clear h0
    go_enter Tryd.func40, Tryd.ntmps40
    go_wp2
    go_ret
    exact ⟨rfl, rfl⟩
  · obtain ⟨hne, hne2⟩ := ne_empty h0
    have hc := fun W => every_q 68 fbyte s W e_isVisible isVisible_q hs
    rw [show (strL s).all fbyte = fok (strL s) from (fok_of h0).symm] at hc
    have HC := Lib.hid hc
    clear hc
    go_enter Tryd.func40, Tryd.ntmps40
    go_wp2_with (go_at_call 52; refine (HC.out _).mono ?_; rintro _ _ ⟨rfl, rfl⟩)
    go_ret
    exact ⟨rfl, rfl⟩

end Go.Proofs.YthancgnmbmempaaDoor
