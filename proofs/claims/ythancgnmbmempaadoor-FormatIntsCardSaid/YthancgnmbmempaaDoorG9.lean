/- What Fields, JoinFields, SplitLines and IsName of package format return. -/
import Derived.Test.YthancgnmbmempaaDoorG8
namespace Go.Proofs.YthancgnmbmempaaDoor
open Go.RowKit Go.Sort

/-- What a call that returns strings and an error gives. -/
def GivesF (W : World) (T : List (List Int) × Int) (x : Ending) (w' : World) : Prop :=
  ∃ A n c l, x = .returned (.tuple #[.slice A n c, .int .i64 T.2]) ∧ RdS w' w'.heap.size A n l ∧ n ≤ c ∧ l.map strL = T.1 ∧ Below W.heap.size W w'

theorem GivesF.none_ {W w' : World} {er : Int} (B : Below W.heap.size W w') : GivesF W ([], er) (.returned (.tuple #[.slice none 0 0, .int .i64 er])) w' :=
  ⟨none, 0, 0, [], rfl, RdS.nil _ _ _, Nat.le_refl _, rfl, B⟩

set_option maxRecDepth 100000 in
theorem fields_b (s : ByteArray) (w : World) (LL : Lay6 w) (hs : s.size ≤ 2000) :
    Calls Tryd.prog 15 #[.string s] w (GivesF w (flds (strL s))) := by
  have BB : Below w.heap.size w w := Below.refl _ _
  rcases Nat.eq_zero_or_pos s.size with h0 | hpos
  · obtain rfl := str_nil h0
    have e : flds (strL ⟨#[]⟩) = ([], 0) := rfl
    rw [e]
    clear e h0
    go_enter Tryd.func15, Tryd.ntmps15
    go_wp2
    go_ret2
    exact GivesF.none_ BB
  · have hne := ne_str hpos
    have hL : strL s ≠ [] := fun h => by have := strL_len s; rw [h] at this; simp at this; omega
    obtain ⟨F, hF⟩ : ∃ F, flds (strL s) = F := ⟨_, rfl⟩
    rw [hF]
    have HFF := Lib.hid hF
    have HLN := Lib.hid hL
    have c := fun W L => split_b s 32 W L (by omega)
    have C := Lib.hid c
    have HL := Lib.hid LL
    clear hL hF c LL
    go_enter Tryd.func15, Tryd.ntmps15
    go_wp2_with (go_at_call 39; refine (C.out _ HL.out).mono ?_; rintro _ W1 ⟨A, n, l, rfl, R, hl, B1⟩)
    have RR := Lib.hid R
    have hr := sp_room 32 (strL s) []
    have hl' : l.map strL = sp 32 (strL s) [] := hl
    rw [← hl', strL_len] at hr
    have hn : n ≤ 2001 := by have := R.len; have := hr.1; rw [List.length_map] at this; omega
    have hsz : ∀ (j : Nat) (x : ByteArray), l[j]? = some x → x.size ≤ 2000 := fun j x hx => by
      have := hr.2 (strL x) (List.mem_map_of_mem (List.mem_of_getElem? hx))
      rw [strL_len] at this
      simp only [List.length_nil] at this
      omega
    have HSZ := Lib.hid hsz
    have HLEN := Lib.hid R.len
    have hend := fields_end hl' HLN.out
    rw [HFF.out] at hend
    obtain ⟨G, hG⟩ : ∃ G, (l.all fun s => fok (strL s)) = G := ⟨_, rfl⟩
    rw [hG] at hend
    have HE := Lib.hid hend
    have HT := Lib.hid hl'
    have HG := Lib.hid hG
    clear hr hsz hend hl hl' hG
    go_loop [13] (fun i => ∃ k : Nat, k ≤ n ∧ i = .int .i64 k ∧ ((l.drop k).all fun s => fok (strL s)) = G) (fun i => n - (intOf i).toNat)
    case atStart => exact ⟨0, Nat.zero_le _, rfl, HG.out⟩
    case round =>
      obtain ⟨k, hk, rfl, hg⟩ := hrel
      by_cases hlt : k < n
      · obtain ⟨b, off, x, rfl, _, cx, hx⟩ := R.at_ hlt
        rw [drop_cut hx.out, List.all_cons] at hg
        have hxs := HSZ.out _ _ hx.out
        have c2 := fun W => isField_q x W (by omega)
        cases hf : fok (strL x)
        · rw [hf] at hg c2
          have hG0 : G = false := by rw [← hg]; rfl
          subst hG0
          have e := HE.out
          simp only [Bool.false_eq_true, if_false] at e
          subst e
          have C2 := Lib.hid c2
          clear hg R c2 hf
          go_wp2_with (go_at_call 40; refine (C2.out _).mono ?_; rintro _ _ ⟨rfl, rfl⟩)
          go_ret2
          exact GivesF.none_ B1
        · rw [hf] at hg c2
          rw [Bool.true_and] at hg
          have HH := Lib.hid hg
          have C2 := Lib.hid c2
          clear hg R c2 hf
          go_wp2_with (go_at_call 40; refine (C2.out _).mono ?_; rintro _ _ ⟨rfl, rfl⟩)
          go_round
          case rel => exact ⟨k + 1, by omega, by go_num, HH.out⟩
          case measure => simp [intOf]; omega
      · obtain rfl : k = n := by omega
        have hG1 : G = true := by rw [← hg, List.drop_eq_nil_of_le (by rw [HLEN.out]; exact Nat.le_refl _)]; rfl
        subst hG1
        have e := HE.out
        simp only [if_true] at e
        subst e
        clear hg R
        go_wp2
        go_ret2
        exact ⟨A, _, _, l, rfl, RR.out, Nat.le_refl _, HT.out, B1⟩

theorem joinFields_b (A : Option Addr) (n c : Nat) (l : List ByteArray) (out : ByteArray) (w : World) (R : RdS w w.heap.size A n l) (hc : n ≤ c) (hn : n ≤ 140737488355328) (hl : out.size ≤ 2000) (ho : strL out = jn false l) :
    Calls Tryd.prog 16 #[.slice A n c] w fun e w' => e = .returned (.string out) ∧ Below w.heap.size w w' := by
  have H := Lib.hid ho
  have RR := Lib.hid R
  have HC := Lib.hid hc
  clear ho R hc
  go_enter Tryd.func16, Tryd.ntmps16
  go_wp2_with (go_at_call 41; refine (join_b _ _ _ _ _ _ RR.out HC.out hl H.out hn).mono ?_; rintro _ W1 ⟨rfl, B⟩)
  go_ret
  exact ⟨rfl, B⟩

set_option maxRecDepth 100000 in
theorem splitLines_b (s : ByteArray) (w : World) (LL : Lay6 w) (hs : s.size ≤ 9223372036854775807) :
    Calls Tryd.prog 24 #[.string s] w (GivesF w (slin (strL s))) := by
  have BB : Below w.heap.size w w := Below.refl _ _
  by_cases hbig : 16384 < s.size
  · have e : slin (strL s) = ([], 5) := by unfold slin; rw [if_pos (by rw [strL_len]; exact hbig)]
    rw [e]
    clear e
    go_enter Tryd.func24, Tryd.ntmps24
    go_wp2
    go_ret2
    exact GivesF.none_ BB
  · rcases Nat.eq_zero_or_pos s.size with h0 | hpos
    · obtain rfl := str_nil h0
      have e : slin (strL ⟨#[]⟩) = ([], 0) := rfl
      rw [e]
      clear e h0
      go_enter Tryd.func24, Tryd.ntmps24
      go_wp2
      go_ret2
      exact GivesF.none_ BB
    · have hne := ne_str hpos
      have hlne : strL s ≠ [] := fun h => by have := strL_len s; rw [h] at this; simp at this; omega
      have e : slin (strL s) = if (strL s).getLast? = some 10 then (sp 10 (strL s).dropLast [], 0) else ([], 3) := by
        unfold slin
        rw [if_neg (by rw [strL_len]; omega), if_neg hlne]
      rw [e]
      clear e hlne
      have hst : strL (s.extract 0 (s.size - 1)) = (strL s).dropLast := init_str s
      obtain ⟨t, ht⟩ : ∃ t, s.extract 0 (s.size - 1) = t := ⟨_, rfl⟩
      have hts : t.size ≤ 16384 := by rw [← ht, ByteArray.size_extract]; omega
      rw [ht] at hst
      have HL := Lib.hid LL
      by_cases h10 : (strL s).getLast? = some 10
      · rw [if_pos h10, ← hst]
        have c1 := fun W => cutSuf_yes s t W hs h10 hst
        have c2 := fun W L => split_b t 10 W L (by omega)
        have C1 := Lib.hid c1
        have C2 := Lib.hid c2
        clear h10 hst ht c1 c2 LL
        go_enter Tryd.func24, Tryd.ntmps24
        go_wp2_with (first
          | (go_at_call 50; refine (C1.out _).mono ?_; rintro _ _ ⟨rfl, rfl⟩)
          | (go_at_call 39; refine (C2.out _ HL.out).mono ?_; rintro _ W1 ⟨A, n, l, rfl, R, hl, B1⟩))
        go_ret2
        exact ⟨A, n, n, l, rfl, R, Nat.le_refl _, hl, B1⟩
      · rw [if_neg h10]
        have c1 := fun W => cutSuf_no s W hs h10
        have C1 := Lib.hid c1
        clear h10 hst ht c1 LL
        go_enter Tryd.func24, Tryd.ntmps24
        go_wp2_with (go_at_call 50; refine (C1.out _).mono ?_; rintro _ _ ⟨rfl, rfl⟩)
        go_ret2
        exact GivesF.none_ BB

set_option maxRecDepth 100000 in
theorem isName_b (s : ByteArray) (w : World) (hs : s.size ≤ 2000) :
    Calls Tryd.prog 26 #[.string s] w fun e w' => e = .returned (.bool (namB (strL s))) ∧ Below w.heap.size w w' := by
  rcases Nat.eq_zero_or_pos s.size with h0 | hpos
  · obtain rfl := str_nil h0
    have hb : Hid (namB (strL ⟨#[]⟩) = false) := Lib.hid rfl
    clear h0
    go_enter Tryd.func26, Tryd.ntmps26
    go_wp2
    go_ret
    exact ⟨ret_bool' hb.out.symm, Below.refl _ _⟩
  · obtain ⟨hne, hne2⟩ := ne_empty hpos
    have hpi : (0 : Int) < (s.size : Int) := by omega
    by_cases h16 : 16 < s.size
    · have hb : Hid (namB (strL s) = false) := Lib.hid (by unfold namB; rw [strL_len, decide_eq_false (show ¬ s.size ≤ 16 by omega)]; simp)
      have h16i : (16 : Int) < (s.size : Int) := by omega
      go_enter Tryd.func26, Tryd.ntmps26
      go_wp2
      go_ret
      exact ⟨ret_bool' hb.out.symm, Below.refl _ _⟩
    · have h16i : (s.size : Int) ≤ 16 := by omega
      have hhd : (strL s).headD 0 = ((s[0]'hpos).toNat : Int) := by rw [List.headD_eq_head?_getD, head_at s hpos]; rfl
      have hnam : namB (strL s) = (letB ((s[0]'hpos).toNat : Int) && ((strL s).drop 1).all latB) := by
        unfold namB
        rw [strL_len, decide_eq_true (show 1 ≤ s.size by omega), decide_eq_true (show s.size ≤ 16 by omega), hhd, List.drop_one]
        simp
      have hall : (strL s).all latB = (latB ((s[0]'hpos).toNat : Int) && ((strL s).drop 1).all latB) := by
        have := strL_drop s 0 hpos
        rw [List.drop_zero] at this
        conv => lhs; rw [this, List.all_cons]
      have c1 := fun W => isNameStart_q ((s[0]'hpos).toNat : Int) W
      have c2 := fun W => every_q 53 latB s W e_isNamePart isNamePart_q (by omega)
      cases hlet : letB ((s[0]'hpos).toNat : Int)
      · rw [hlet] at c1 hnam
        have hb : Hid (namB (strL s) = false) := Lib.hid hnam
        have C1 := Lib.hid c1
        clear c1 c2 hlet hnam hall hhd
        go_enter Tryd.func26, Tryd.ntmps26
        go_wp2_with (go_at_call 51; refine (C1.out _).mono ?_; rintro _ _ ⟨rfl, rfl⟩)
        go_ret
        exact ⟨ret_bool' hb.out.symm, Below.refl _ _⟩
      · have hlat : latB ((s[0]'hpos).toNat : Int) = true := by unfold latB; rw [hlet]; rfl
        rw [hlat] at hall
        rw [hlet] at c1 hnam
        rw [hall, ← hnam] at c2
        have C1 := Lib.hid c1
        have C2 := Lib.hid c2
        clear c1 c2 hlet hnam hall hhd hlat
        go_enter Tryd.func26, Tryd.ntmps26
        go_wp2_with (first
          | (go_at_call 51; refine (C1.out _).mono ?_; rintro _ _ ⟨rfl, rfl⟩)
          | (go_at_call 52; refine (C2.out _).mono ?_; rintro _ _ ⟨rfl, rfl⟩))
        go_ret
        exact ⟨rfl, Below.refl _ _⟩

end Go.Proofs.YthancgnmbmempaaDoor
