/- The walks of PermuteInverts and PermuteApplies. -/
import Derived.Test.YtjlgekfgldmkhaaP10
namespace Go.Proofs.Ytjlgekfgldmkhaa
open Go.RowKit Go.Sort

theorem invv_len (l : List Int) : (invv l).1.length ≤ l.length := by
  unfold invv
  split
  · rw [inv_len]; exact Nat.le_refl _
  · simp

set_option maxRecDepth 100000 in
theorem inverts_walk (A : Option Addr) (n c : Nat) (l : List Int) (w : World) (R : Rd w w.heap.size .i64 A n l) (hn : n * 8 ≤ 140737488351232) :
    Calls Try.prog 4 #[.slice A n c] w fun e w' => e = .returned (.bool true) ∧ Below w.heap.size w w' := by
  have BB : Below w.heap.size w w := Below.refl _ _
  have own0 : Own w w.heap.size 3 .i64 none 0 0 [] := Own.nil w _ _
  have c1 := fun A n c W R hn => inverse_b A n c l W R hn
  have c2 := fun A n c W R hn => rinverse_b A n c l W R hn
  have c3 := fun A n c W R hn => isPermutation_b A n c l W R hn
  have c4 := fun A n c W R hn => risPermutation_q A n c l W R hn
  have hL : (invv l).1.length ≤ n := by rw [← R.len]; exact invv_len l
  have H01 : (invv l).2 = 0 ∨ (invv l).2 = 2 := by unfold invv; split <;> simp
  obtain ⟨L, v, hLv⟩ : ∃ L v, invv l = (L, v) := ⟨_, _, rfl⟩
  obtain ⟨p, hp⟩ : ∃ p, isPB l = p := ⟨_, rfl⟩
  rw [hLv] at c1 c2 hL H01
  rw [hp] at c3 c4
  have C1 := Lib.hid c1
  have C2 := Lib.hid c2
  have C3 := Lib.hid c3
  have C4 := Lib.hid c4
  have HL := Lib.hid hL
  have hv : IntKind.i64.wrap v = v := by rw [IntKind.wrap_i64]; simp only at H01; omega
  clear c1 c2 c3 c4 hLv hL hp H01
  go_enter Try.func4, Try.ntmps4
  go_wp2_with (first
    | (at_builtin; refine wpList_app _ rfl _ _ _ rfl eI own0 rfl R rfl (by simp only [maxLen]; omega) (by omega) ?_; intro A1 n1 d1 W1 own1 B; rw [List.nil_append] at own1; obtain rfl : n1 = n := by rw [← own1.len, R.len]
       have K := own1.rd; clear own1 own0; replace BB := bon BB B; clear B)
    | (go_at_call 18; refine (C1.out _ _ _ _ (R.on BB) hn).mono ?_; rintro _ W2 ⟨A2, n2, d2, rfl, own2, B⟩; have R2 := own2.rd; clear own2; replace K := K.on B; replace BB := bon BB B; clear B)
    | (go_at_call 19; refine (C2.out _ _ _ _ K hn).mono ?_; rintro _ W3 ⟨A3, n3, d3, rfl, own3, B⟩; have R3 := own3.rd; clear own3; replace K := K.on B; replace R2 := R2.on B; replace BB := bon BB B; clear B)
    | (go_at_call 20; refine (C3.out _ _ _ _ (R.on BB) hn).mono ?_; rintro _ W4 ⟨rfl, B⟩; replace K := K.on B; replace R2 := R2.on B; replace R3 := R3.on B; replace BB := bon BB B; clear B)
    | (go_at_call 21; refine (C4.out _ _ _ _ K (by omega)).mono ?_; rintro _ _ ⟨rfl, rfl⟩)
    | (go_at_call 16; refine (rsame_b _ _ _ _ _ _ _ _ _ _ R2 R3 (Nat.le_refl _) (Nat.le_refl _) (by have := R2.len; have := HL.out; omega)).mono ?_; rintro _ W5 ⟨rfl, B⟩; replace K := K.on B; replace BB := bon BB B; clear B R2 R3)
    | (go_at_call 16; refine (rsame_b _ _ _ _ _ _ _ _ _ _ (R.on BB) K (Nat.le_refl _) (Nat.le_refl _) (by omega)).mono ?_; rintro _ W6 ⟨rfl, B⟩; replace BB := bon BB B; clear B K)
    | (go_at_call 17; refine (example_b _).mono ?_; rintro _ W7 ⟨rfl, B⟩; replace BB := bon BB B; clear B))
  go_ret
  exact ⟨rfl, BB⟩

theorem app_length {α : Type} : ∀ (l : List α) (o : List Int) (r : List α), app l o = some r → r.length = o.length
  | _, [], r, h => by
    rw [app_nil] at h
    injection h with h
    subst h
    rfl
  | l, i :: o, r, h => by
    by_cases hi : 0 ≤ i ∧ i < l.length
    · obtain ⟨j, rfl⟩ : ∃ j : Nat, i = j := ⟨i.toNat, by omega⟩
      have hx : l[j]? = some l[j] := List.getElem?_eq_getElem (by omega)
      rw [app_good hx] at h
      cases hr : app l o with
      | none => rw [hr] at h; cases h
      | some t =>
        rw [hr] at h
        injection h with h
        subst h
        simp [app_length l o t hr]
    · rw [app_bad hi] at h
      cases h

theorem app_len_le (l o : List Int) : ((app l o).getD []).length ≤ o.length := by
  cases h : app l o with
  | none => simp
  | some r => simp [app_length l o r h]

set_option maxRecDepth 100000 in
theorem applies_walk (A1 A2 : Option Addr) (n1 c1 n2 c2 : Nat) (l o : List Int) (w : World) (R1 : Rd w w.heap.size .i64 A1 n1 l) (R2 : Rd w w.heap.size .i64 A2 n2 o) (h1 : n1 * 8 ≤ 140737488351232) (h2 : n2 * 8 ≤ 140737488351232) :
    Calls Try.prog 5 #[.slice A1 n1 c1, .slice A2 n2 c2] w fun e w' => e = .returned (.bool true) ∧ Below w.heap.size w w' := by
  have BB : Below w.heap.size w w := Below.refl _ _
  have ca := fun W R1 R2 => apply_b A1 A2 n1 c1 n2 c2 l o W R1 R2 (by omega) h2
  have cb := fun W R1 R2 => rapply_b A1 A2 n1 c1 n2 c2 l o W R1 R2 h2
  have hL : ((app l o).getD []).length ≤ n2 := by rw [← R2.len]; exact app_len_le l o
  obtain ⟨T, hT⟩ : ∃ T, app l o = T := ⟨_, rfl⟩
  rw [hT] at ca cb hL
  have CA := Lib.hid ca
  have CB := Lib.hid cb
  have HL := Lib.hid hL
  clear ca cb hT hL
  go_enter Try.func5, Try.ntmps5
  go_wp2_with (first
    | (go_at_call 22; refine (CA.out _ (R1.on BB) (R2.on BB)).mono ?_; rintro _ W3 ⟨A3, n3, d3, rfl, own3, B⟩; have R3 := own3.rd; clear own3; replace BB := bon BB B; clear B)
    | (go_at_call 23; refine (CB.out _ (R1.on BB) (R2.on BB)).mono ?_; rintro _ W4 ⟨A4, n4, d4, rfl, own4, B⟩; have R4 := own4.rd; clear own4; replace R3 := R3.on B; replace BB := bon BB B; clear B)
    | (go_at_call 16; refine (rsame_b _ _ _ _ _ _ _ _ _ _ R3 R4 (Nat.le_refl _) (Nat.le_refl _) (by have := R3.len; have := HL.out; omega)).mono ?_; rintro _ W5 ⟨rfl, B⟩; replace BB := bon BB B; clear B R3 R4)
    | (go_at_call 17; refine (example_b _).mono ?_; rintro _ W7 ⟨rfl, B⟩; replace BB := bon BB B; clear B))
  go_ret
  exact ⟨rfl, BB⟩

end Go.Proofs.Ytjlgekfgldmkhaa
