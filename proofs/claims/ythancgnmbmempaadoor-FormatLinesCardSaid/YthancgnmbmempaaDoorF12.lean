/- What Fields of the reference returns. -/
import Derived.Test.YthancgnmbmempaaDoorF11
namespace Go.Proofs.YthancgnmbmempaaDoor
open Go.RowKit Go.Sort

/-- A byte that a field may hold. -/
def fbyte (x : Int) : Bool := decide (33 ≤ x) && decide (x ≤ 126)
/-- A field. -/
def fok (P : List Int) : Bool := !P.isEmpty && P.all fbyte
/-- The fields of a line; the error. -/
def flds (L : List Int) : List (List Int) × Int :=
  if L = [] then ([], 0) else if (sp 32 L []).all fok = true then (sp 32 L [], 0) else ([], 3)

theorem sp_room (c : Int) : ∀ (L cur : List Int), (sp c L cur).length ≤ L.length + 1 ∧ ∀ P ∈ sp c L cur, P.length ≤ cur.length + L.length
  | [], cur => by simp [sp]
  | x :: r, cur => by
    unfold sp
    split
    · have h := sp_room c r []
      refine ⟨by simp only [List.length_cons]; omega, fun P hP => ?_⟩
      rcases List.mem_cons.1 hP with rfl | hP
      · omega
      · have := h.2 P hP
        simp only [List.length_cons, List.length_nil] at this ⊢
        omega
    · have h := sp_room c r (cur ++ [x])
      refine ⟨by simp only [List.length_cons]; omega, fun P hP => ?_⟩
      have := h.2 P hP
      simp only [List.length_append, List.length_cons, List.length_nil] at this ⊢
      omega

theorem fok_of {s : ByteArray} (h : 0 < s.size) : fok (strL s) = ((strL s).drop 0).all fbyte := by
  have : (strL s).isEmpty = false := by
    cases hl : strL s with
    | nil => have := strL_len s; rw [hl] at this; simp at this; omega
    | cons _ _ => rfl
  unfold fok
  rw [this]; rfl

theorem byte_all_no {s : ByteArray} {k : Nat} {r : Bool} {G : Bool} (h : (((strL s).drop k).all fbyte && r) = G) (hk : k < s.size) (hb : fbyte ((s[k]).toNat : Int) = false) : G = false := by
  rw [strL_drop s k hk, List.all_cons, hb] at h
  rw [← h]; rfl

theorem byte_all_on {s : ByteArray} {k : Nat} {r : Bool} {G : Bool} (h : (((strL s).drop k).all fbyte && r) = G) (hk : k < s.size) (hb : fbyte ((s[k]).toNat : Int) = true) : (((strL s).drop (k + 1)).all fbyte && r) = G := by
  rw [strL_drop s k hk, List.all_cons, hb, Bool.true_and] at h
  exact h

theorem fields_end {L : List Int} {l : List ByteArray} (h : l.map strL = sp 32 L []) (hL : L ≠ []) : flds L = if (l.all fun s => fok (strL s)) = true then (sp 32 L [], 0) else ([], 3) := by
  unfold flds
  rw [if_neg hL, ← h, List.all_map]
  rfl

set_option maxRecDepth 100000 in
set_option maxHeartbeats 1000000 in
theorem rfields_b (s : ByteArray) (w : World) (hs : s.size ≤ 1000000) :
    Calls Tryd.prog 22 #[.string s] w (GivesE w (flds (strL s))) := by
  have BB : Below w.heap.size w w := Below.refl _ _
  rcases Nat.eq_zero_or_pos s.size with h0 | hpos
  · obtain rfl : s = ⟨#[]⟩ := str_ext (by rw [head_none s h0]; rfl)
    have e : flds (strL ⟨#[]⟩) = ([], 0) := rfl
    rw [e]
    clear e
    go_enter Tryd.func22, Tryd.ntmps22
    go_wp2
    go_ret2
    exact GivesE.none_ BB
  · have hne := ne_str hpos
    have hL : strL s ≠ [] := fun h => by have := strL_len s; rw [h] at this; simp at this; omega
    obtain ⟨F, hF⟩ : ∃ F, flds (strL s) = F := ⟨_, rfl⟩
    rw [hF]
    have HFF := Lib.hid hF
    have HLN := Lib.hid hL
    clear hL hF
    go_enter Tryd.func22, Tryd.ntmps22
    go_wp2_with (go_at_call 49; refine (rsplit_b _ _ _ hs).mono ?_; rintro _ W1 ⟨A, n, c, l, rfl, own, hl, B1⟩)
    have R := own.rd
    have OWN := Lib.hid own
    have hr := sp_room 32 (strL s) []
    rw [← hl, strL_len] at hr
    have hn : n ≤ 1000001 := by have := own.len; have := hr.1; rw [List.length_map] at this; omega
    have hsz : ∀ (j : Nat) (x : ByteArray), l[j]? = some x → x.size ≤ 1000000 := fun j x hx => by
      have := hr.2 (strL x) (List.mem_map_of_mem (List.mem_of_getElem? hx))
      rw [strL_len] at this
      simp only [List.length_nil] at this
      omega
    have HSZ := Lib.hid hsz
    have HLEN := Lib.hid own.len
    have hend := fields_end hl HLN.out
    rw [HFF.out] at hend
    obtain ⟨G, hG⟩ : ∃ G, (l.all fun s => fok (strL s)) = G := ⟨_, rfl⟩
    rw [hG] at hend
    have HE := Lib.hid hend
    have HT := Lib.hid hl
    have HG := Lib.hid hG
    clear own hr hsz hend hl hG
    go_loop [5] (fun i => ∃ k : Nat, k ≤ n ∧ i = .int .i64 k ∧ ((l.drop k).all fun s => fok (strL s)) = G) (fun i => n - (intOf i).toNat)
    case atStart => exact ⟨0, Nat.zero_le _, rfl, HG.out⟩
    case round =>
      obtain ⟨k, hk, rfl, hg⟩ := hrel
      by_cases hlt : k < n
      · obtain ⟨b, off, x, rfl, _, cx, hx⟩ := R.at_ hlt
        rw [drop_cut hx.out, List.all_cons] at hg
        have hxs := HSZ.out _ _ hx.out
        rcases Nat.eq_zero_or_pos x.size with h0 | hxp
        · obtain rfl : x = ⟨#[]⟩ := str_ext (by rw [head_none x h0]; rfl)
          have hG0 : G = false := by rw [← hg]; rfl
          subst hG0
          have e := HE.out
          simp only [Bool.false_eq_true, if_false] at e
          subst e
          clear hg R
          go_wp2
          go_ret2
          exact GivesE.none_ B1
        · have hxne := ne_str hxp
          rw [fok_of hxp] at hg
          have HG2 := Lib.hid hg
          clear hg R
          go_wp2
          go_loop [6] (fun t => ∃ q : Nat, q ≤ x.size ∧ t = .int .i64 q ∧ (((strL x).drop q).all fbyte && (l.drop (k + 1)).all fun s => fok (strL s)) = G) (fun t => x.size - (intOf t).toNat)
          case atStart => exact ⟨0, Nat.zero_le _, rfl, HG2.out⟩
          case round =>
            clear HG2
            obtain ⟨q, hq, rfl, hh⟩ := hrel
            by_cases hql : q < x.size
            · have hy := (x[q]).toNat_lt
              by_cases hbad : ((x[q]).toNat : Int) < 33 ∨ 126 < ((x[q]).toNat : Int)
              · have hG0 : G = false := byte_all_no hh hql (by unfold fbyte; simp only [Bool.and_eq_false_iff, decide_eq_false_iff_not]; omega)
                subst hG0
                have e := HE.out
                simp only [Bool.false_eq_true, if_false] at e
                subst e
                clear hh
                rcases hbad with hbad | hbad
                · go_wp2
                  go_ret2
                  exact GivesE.none_ B1
                · have hge : (33 : Int) ≤ ((x[q]).toNat : Int) := by omega
                  go_wp2
                  go_ret2
                  exact GivesE.none_ B1
              · have hH := byte_all_on hh hql (by unfold fbyte; simp only [Bool.and_eq_true, decide_eq_true_eq]; omega)
                have HH := Lib.hid hH
                have g0 : ¬ ((x[q]).toNat : Int) < 33 := by omega
                have g1 : ¬ 126 < ((x[q]).toNat : Int) := by omega
                clear hH hh hbad
                go_wp2
                go_round
                case rel => exact ⟨q + 1, by omega, by go_num, HH.out⟩
                case measure => simp [intOf]; omega
            · obtain rfl : q = x.size := by omega
              rw [List.drop_eq_nil_of_le (by rw [strL_len]; exact Nat.le_refl _), List.all_nil, Bool.true_and] at hh
              have HH := Lib.hid hh
              clear hh
              go_wp2
              go_round
              case rel => exact ⟨k + 1, by omega, by go_num, HH.out⟩
              case measure => simp [intOf]; omega
      · obtain rfl : k = n := by omega
        have hG1 : G = true := by rw [← hg, List.drop_eq_nil_of_le (by rw [HLEN.out]; exact Nat.le_refl _)]; rfl
        subst hG1
        have e := HE.out
        simp only [if_true] at e
        subst e
        clear hg R
        go_wp2
        go_ret2
        exact ⟨A, _, c, l, rfl, OWN.out, HT.out, B1⟩

end Go.Proofs.YthancgnmbmempaaDoor
