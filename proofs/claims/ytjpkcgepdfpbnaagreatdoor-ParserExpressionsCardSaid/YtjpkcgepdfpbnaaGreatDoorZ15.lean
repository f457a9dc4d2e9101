/- token of the reference. -/
import Derived.Test.YtjpkcgepdfpbnaaGreatDoorZ14
namespace Go.Proofs.YtjpkcgepdfpbnaaGreatDoor
open Go.RowKit Go.Sort Go.ChangeShapes Go.WideShapes
set_option linter.unusedVariables false

theorem wrd_cases {x : Int} (h : isWrd x = true) : isLet x = true ∨ (isLet x = false ∧ isDig x = true) := by
  unfold isWrd at h
  cases hl : isLet x
  · right
    rw [hl] at h
    exact ⟨rfl, by simpa using h⟩
  · exact .inl rfl

theorem wrd_no {x : Int} (h : isWrd x = false) : isLet x = false ∧ isDig x = false := by
  unfold isWrd at h
  simpa using h

/-- The byte that begins a text: what kind. -/
theorem spn_word (r : List Int) : spn isWrd r = 0 ↔ (r.head?).any isWrd = false := by
  cases r with
  | nil => simp [spn_nil]
  | cons c r =>
    rw [spn_cons]
    cases h : isWrd c <;> simp [h]

theorem EBox.one4 (w : World) (t : TypeId) (k v : Int) (x : ByteArray) : EBox (w.alloc (.cells #[.int .i64 k, .string x, .int .i64 v, .int .i64 0] t)) w.heap.size [.int .i64 k, .string x, .int .i64 v, .int .i64 0] := EBox.made w #[.int .i64 k, .string x, .int .i64 v, .int .i64 0] t

/-- Behind the call of number: the result's block, and the store of its result. -/
theorem num_after (w : World) (t : TypeId) (k v : Int) (x : ByteArray) {W1 : World} (B : Below (w.alloc (.cells tok0.toArray t)).heap.size (w.alloc (.cells tok0.toArray t)) W1) :
    W1.cell? ⟨w.heap.size, 0, none⟩ = some (.int .i64 0) ∧ W1.cell? ⟨w.heap.size, 1, none⟩ = some (.string ⟨#[]⟩) ∧ W1.cell? ⟨w.heap.size, 2, none⟩ = some (.int .i64 0) ∧ W1.cell? ⟨w.heap.size, 3, none⟩ = some (.int .i64 0) ∧
      W1.frozen? ⟨w.heap.size, 0, none⟩ = false ∧ W1.frozen? ⟨w.heap.size, 1, none⟩ = false ∧ W1.frozen? ⟨w.heap.size, 2, none⟩ = false ∧ W1.frozen? ⟨w.heap.size, 3, none⟩ = false ∧
      EBox ((((W1.setCell ⟨w.heap.size, 0, none⟩ (.int .i64 k)).setCell ⟨w.heap.size, 1, none⟩ (.string x)).setCell ⟨w.heap.size, 2, none⟩ (.int .i64 v)).setCell ⟨w.heap.size, 3, none⟩ (.int .i64 0)) w.heap.size [.int .i64 k, .string x, .int .i64 v, .int .i64 0] ∧
      Below w.heap.size w ((((W1.setCell ⟨w.heap.size, 0, none⟩ (.int .i64 k)).setCell ⟨w.heap.size, 1, none⟩ (.string x)).setCell ⟨w.heap.size, 2, none⟩ (.int .i64 v)).setCell ⟨w.heap.size, 3, none⟩ (.int .i64 0)) := by
  have E0 : EBox W1 w.heap.size tok0 := (EBox.made w tok0.toArray t).on (by simp) B
  exact ⟨E0.cell (i := 0) rfl, E0.cell (i := 1) rfl, E0.cell (i := 2) rfl, E0.cell (i := 3) rfl, E0.2 0, E0.2 1, E0.2 2, E0.2 3,
    (((E0.set (i := 0) (v := .int .i64 k) (by simp)).set (i := 1) (v := .string x) (by simp)).set (i := 2) (v := .int .i64 v) (by simp)).set (i := 3) (v := .int .i64 0) (by simp),
    bset0 (bset0 (bset0 (bset0 (bon (box_below _ _ _) B) (Nat.le_refl _) 0 _) (Nat.le_refl _) 1 _) (Nat.le_refl _) 2 _) (Nat.le_refl _) 3 _⟩

theorem sgl_two {r : List Int} (h : 2 ≤ r.length) (h2 : sgI (r.take 2) = true) : sgl r = 2 := by
  unfold sgl
  rw [show min 2 r.length = 1 + 1 by omega, sgk_yes h2]
theorem sgl_one {r : List Int} (h : 1 ≤ r.length) (h2 : ¬ (2 ≤ r.length ∧ sgI (r.take 2) = true)) (h1 : sgl r ≠ 0) : sgl r = 1 := by
  unfold sgl at h1 ⊢
  by_cases q : 2 ≤ r.length
  · have q2 : sgI (r.take 2) = false := by
      cases e : sgI (r.take 2)
      · rfl
      · exact absurd ⟨q, e⟩ h2
    rw [show min 2 r.length = 1 + 1 by omega, sgk_no q2] at h1 ⊢
    unfold sgk at h1 ⊢
    split
    · rfl
    · rename_i e
      rw [if_neg e] at h1
      exact absurd rfl h1
  · rw [show min 2 r.length = 0 + 1 by omega] at h1 ⊢
    unfold sgk at h1 ⊢
    split
    · rfl
    · rename_i e
      rw [if_neg e] at h1
      exact absurd rfl h1

set_option maxRecDepth 100000 in
set_option maxHeartbeats 8000000 in
theorem rtoken_b (s : ByteArray) (p : Nat) (w : World) (hp : p < s.size) (hs : s.size ≤ 16384) (hgood : ¬ (spn isWrd ((strL s).drop p) = 0 ∧ sgl ((strL s).drop p) = 0)) :
    Calls Tryz.prog 60 #[.string s, .int .i64 (p : Int)] w (GivesN ((strL s).drop p) p (tkr ((strL s).drop p)) w) := by
  have hpi : (p : Int) < (s.size : Int) := by omega
  have hhd : ((strL s).drop p).head? = some ((s[p]).toNat : Int) := by rw [List.head?_drop, strL_at s p hp]
  have cd := fun W => rdigit_q ((s[p]).toNat : Int) W
  have hlen : ((strL s).drop p).length = s.size - p := by rw [List.length_drop, strL_len]
  cases hd : isDig ((s[p]).toNat : Int) with
  | true =>
    rw [hd] at cd
    have CD := Lib.hid cd
    have CN := Lib.hid (fun W => rznumber_b s p W hp hs (by rw [hhd]; exact hd))
    obtain ⟨T, hT⟩ : ∃ T, tkr ((strL s).drop p) = T := ⟨_, rfl⟩
    rw [hT] at CN ⊢
    clear cd hd hhd hT hgood
    go_enter Tryz.func60, Tryz.ntmps60
    go_wp2_with (first
      | (go_at_call 57; (refine (CD.out _).mono ?_); rintro _ _ ⟨rfl, rfl⟩)
      | (go_at_call 84; (refine (CN.out _).mono ?_); rintro _ W1 ⟨k, v, en, x, rfl, B, hq⟩; obtain ⟨d0, d1, d2, d3, y0, y1, y2, y3, xf, bf⟩ := num_after w 60 k v x B; have KV := Lib.hid xf; have BV := Lib.hid bf; have HQ := Lib.hid hq; clear xf bf B hq))
    refine bodyPost_ret (results_tok rfl rowTok KV.out.rng rfl _ rfl rfl rfl) rfl ?_
    exact ⟨k, v, en, x, rfl, BV.out, HQ.out⟩
  | false =>
    rw [hd] at cd
    have CD := Lib.hid cd
    have ED := Lib.hid (fun k x => EBox.one4 w 60 k 0 x)
    have BW := Lib.hid (fun k x => box_below w #[.int .i64 k, .string x, .int .i64 0, .int .i64 0] 60)
    have cl := fun W => rletter_q ((s[p]).toNat : Int) W
    have hnd : ¬ ((((strL s).drop p).head?).any isDig = true) := by rw [hhd]; simp [hd]
    cases hl : isLet ((s[p]).toNat : Int) with
    | true =>
      have hwd : 0 < spn isWrd ((strL s).drop p) := by
        rcases Nat.eq_zero_or_pos (spn isWrd ((strL s).drop p)) with h | h
        · rw [spn_word, hhd] at h
          simp [isWrd, hl] at h
        · exact h
      have hT : tkr ((strL s).drop p) = (0, 1, spn isWrd ((strL s).drop p), 0) := by unfold tkr; rw [if_neg hnd, if_pos hwd]
      have hle := spn_le isWrd ((strL s).drop p)
      rw [hlen] at hle
      have HIN : Hid (∀ k (h : k < s.size), p ≤ k → k < p + spn isWrd ((strL s).drop p) → isLet ((s[k]).toNat : Int) = true ∨ (isLet ((s[k]).toNat : Int) = false ∧ isDig ((s[k]).toNat : Int) = true)) := Lib.hid fun k h h1 h2 => by
        exact wrd_cases (spn_in (p := isWrd) (l := (strL s).drop p) (k := k - p) (by omega) (by rw [List.getElem?_drop, show p + (k - p) = k by omega]; exact strL_at s k h))
      have HOUT : Hid (∀ k (h : k < s.size), k = p + spn isWrd ((strL s).drop p) → isLet ((s[k]).toNat : Int) = false ∧ isDig ((s[k]).toNat : Int) = false) := Lib.hid fun k h hk => by
        subst hk
        exact wrd_no (spn_out (p := isWrd) (l := (strL s).drop p) (by rw [List.getElem?_drop]; exact strL_at s _ h))
      have hx : strL (s.extract p (p + spn isWrd ((strL s).drop p))) = ((strL s).drop p).take (spn isWrd ((strL s).drop p)) := by rw [strL_extract, Nat.add_sub_cancel_left]
      rw [hl] at cl
      rw [hT]
      obtain ⟨m, hm⟩ : ∃ m, spn isWrd ((strL s).drop p) = m := ⟨_, rfl⟩
      rw [hm] at hwd hle HIN HOUT hx ⊢
      obtain ⟨z, hz⟩ : ∃ z, p + m = z := ⟨_, rfl⟩
      rw [hz] at HIN HOUT hx
      have hzi : (p : Int) ≤ (z : Int) ∧ (z : Int) ≤ (s.size : Int) := by omega
      have CL := Lib.hid cl
      have HX := Lib.hid hx
      have HZ := Lib.hid hz
      have hpz : p ≤ z := by omega
      clear cd cl hd hl hhd hgood hnd hT hx hm hlen hz
      go_enter Tryz.func60, Tryz.ntmps60
      go_wp2_with (first
        | (go_at_call 57; (with_reducible refine (CD.out _).mono ?_); rintro _ _ ⟨rfl, rfl⟩)
        | (go_at_call 58; (with_reducible refine (CL.out _).mono ?_); rintro _ _ ⟨rfl, rfl⟩))
      go_loopw [7] (fun a wr => ∃ k : Nat, p ≤ k ∧ k ≤ z ∧ a = .int .i64 (k : Int) ∧ w.alloc (.cells tok0.toArray 60) = wr) (fun a _ => z - (intOf a).toNat)
      case atStart => exact ⟨p, by omega, by omega, rfl, rfl⟩
      case round =>
        obtain ⟨k, hk1, hk2, rfl, rfl⟩ := hrel
        by_cases hkz : k < z
        · have hks : k < s.size := by omega
          have hksi : (k : Int) < (s.size : Int) := by omega
          rcases HIN.out k hks hk1 hkz with q1 | ⟨q1, q2⟩
          · have C1 := fun W => rletter_q ((s[k]).toNat : Int) W
            rw [q1] at C1
            have K1 := Lib.hid C1
            clear C1
            go_wp2_with (go_at_call 58; (with_reducible refine (K1.out _).mono ?_); rintro _ _ ⟨rfl, rfl⟩)
            go_roundw
            case rel => exact ⟨k + 1, by omega, by omega, by go_num, by simp⟩
            case measure => simp [intOf] <;> omega
          · have C1 := fun W => rletter_q ((s[k]).toNat : Int) W
            have C2 := fun W => rdigit_q ((s[k]).toNat : Int) W
            rw [q1] at C1
            rw [q2] at C2
            have K1 := Lib.hid C1
            have K2 := Lib.hid C2
            clear C1 C2
            go_wp2_with (first
              | (go_at_call 58; (with_reducible refine (K1.out _).mono ?_); rintro _ _ ⟨rfl, rfl⟩)
              | (go_at_call 57; (with_reducible refine (K2.out _).mono ?_); rintro _ _ ⟨rfl, rfl⟩))
            go_roundw
            case rel => exact ⟨k + 1, by omega, by omega, by go_num, by simp⟩
            case measure => simp [intOf] <;> omega
        · obtain rfl : k = z := by omega
          by_cases hks : k < s.size
          · have hksi : (k : Int) < (s.size : Int) := by omega
            obtain ⟨q1, q2⟩ := HOUT.out k hks rfl
            have C1 := fun W => rletter_q ((s[k]).toNat : Int) W
            have C2 := fun W => rdigit_q ((s[k]).toNat : Int) W
            rw [q1] at C1
            rw [q2] at C2
            have K1 := Lib.hid C1
            have K2 := Lib.hid C2
            clear C1 C2
            go_wp2_with (first
              | (go_at_call 58; (with_reducible refine (K1.out _).mono ?_); rintro _ _ ⟨rfl, rfl⟩)
              | (go_at_call 57; (with_reducible refine (K2.out _).mono ?_); rintro _ _ ⟨rfl, rfl⟩))
            refine bodyPost_ret (results_tok rfl rowTok (ED.out _ _).rng rfl _ rfl rfl rfl) rfl ?_
            exact ⟨_, _, _, _, rfl, BW.out _ _, fun _ => ⟨rfl, by rw [← HX.out, strOf_strL], rfl, by rw [HZ.out]⟩⟩
          · have hksi : ¬ (k : Int) < (s.size : Int) := by omega
            go_wp2_with fail
            refine bodyPost_ret (results_tok rfl rowTok (ED.out _ _).rng rfl _ rfl rfl rfl) rfl ?_
            exact ⟨_, _, _, _, rfl, BW.out _ _, fun _ => ⟨rfl, by rw [← HX.out, strOf_strL], rfl, by rw [HZ.out]⟩⟩
    | false =>
      have hwd : spn isWrd ((strL s).drop p) = 0 := by
        rw [spn_word, hhd]
        simp [isWrd, hl, hd]
      have hT : tkr ((strL s).drop p) = (0, 4, sgl ((strL s).drop p), 0) := by unfold tkr; rw [if_neg hnd, if_neg (by omega)]
      have hsg : sgl ((strL s).drop p) ≠ 0 := fun h => hgood ⟨hwd, h⟩
      have cs := fun W => rIsSign_q (s.extract p (p + 2)) W
      rw [← sgI_str, strL_extract, Nat.add_sub_cancel_left] at cs
      have hx : ∀ m, strL (s.extract p (p + m)) = ((strL s).drop p).take m := fun m => by rw [strL_extract, Nat.add_sub_cancel_left]
      have hways : (¬ (p : Int) + 2 ≤ (s.size : Int) ∧ sgl ((strL s).drop p) = 1) ∨ (p + 2 ≤ s.size ∧ sgI (((strL s).drop p).take 2) = false ∧ sgl ((strL s).drop p) = 1) ∨ (p + 2 ≤ s.size ∧ sgI (((strL s).drop p).take 2) = true ∧ sgl ((strL s).drop p) = 2) := by
        by_cases h2 : p + 2 ≤ s.size
        · cases e : sgI (((strL s).drop p).take 2)
          · exact .inr (.inl ⟨h2, rfl, sgl_one (by omega) (by rw [e]; simp) hsg⟩)
          · exact .inr (.inr ⟨h2, rfl, sgl_two (by omega) e⟩)
        · exact .inl ⟨by omega, sgl_one (by omega) (by omega) hsg⟩
      rw [hl] at cl
      rw [hT]
      obtain ⟨G, hG⟩ : ∃ G, sgl ((strL s).drop p) = G := ⟨_, rfl⟩
      rw [hG] at hways ⊢
      have CL := Lib.hid cl
      have HX := Lib.hid hx
      clear cd cl hd hl hhd hgood hnd hT hx hlen hwd hsg hG
      rcases hways with ⟨h2, rfl⟩ | ⟨h2, hs2, rfl⟩ | ⟨h2, hs2, rfl⟩
      · go_enter Tryz.func60, Tryz.ntmps60
        go_wp2_with (first
          | (go_at_call 57; (with_reducible refine (CD.out _).mono ?_); rintro _ _ ⟨rfl, rfl⟩)
          | (go_at_call 58; (with_reducible refine (CL.out _).mono ?_); rintro _ _ ⟨rfl, rfl⟩))
        refine bodyPost_ret (results_tok rfl rowTok (ED.out _ _).rng rfl _ rfl rfl rfl) rfl ?_
        exact ⟨_, _, _, _, rfl, BW.out _ _, fun _ => ⟨rfl, by rw [← HX.out 1, strOf_strL], rfl, rfl⟩⟩
      · have h2i : (p : Int) + 2 ≤ (s.size : Int) := by omega
        rw [hs2] at cs
        have CS := Lib.hid cs
        clear cs hs2
        go_enter Tryz.func60, Tryz.ntmps60
        go_wp2_with (first
          | (go_at_call 57; (with_reducible refine (CD.out _).mono ?_); rintro _ _ ⟨rfl, rfl⟩)
          | (go_at_call 58; (with_reducible refine (CL.out _).mono ?_); rintro _ _ ⟨rfl, rfl⟩)
          | (go_at_call 59; (refine (CS.out _).mono ?_); rintro _ _ ⟨rfl, rfl⟩))
        refine bodyPost_ret (results_tok rfl rowTok (ED.out _ _).rng rfl _ rfl rfl rfl) rfl ?_
        exact ⟨_, _, _, _, rfl, BW.out _ _, fun _ => ⟨rfl, by rw [← HX.out 1, strOf_strL], rfl, rfl⟩⟩
      · have h2i : (p : Int) + 2 ≤ (s.size : Int) := by omega
        rw [hs2] at cs
        have CS := Lib.hid cs
        clear cs hs2
        go_enter Tryz.func60, Tryz.ntmps60
        go_wp2_with (first
          | (go_at_call 57; (with_reducible refine (CD.out _).mono ?_); rintro _ _ ⟨rfl, rfl⟩)
          | (go_at_call 58; (with_reducible refine (CL.out _).mono ?_); rintro _ _ ⟨rfl, rfl⟩)
          | (go_at_call 59; (refine (CS.out _).mono ?_); rintro _ _ ⟨rfl, rfl⟩))
        refine bodyPost_ret (results_tok rfl rowTok (ED.out _ _).rng rfl _ rfl rfl rfl) rfl ?_
        exact ⟨_, _, _, _, rfl, BW.out _ _, fun _ => ⟨rfl, by rw [← HX.out 2, strOf_strL], rfl, rfl⟩⟩

end Go.Proofs.YtjpkcgepdfpbnaaGreatDoor
