/- The walk of LexerTokens. -/
import Derived.Test.YtapijdimajgflaaDoorZ27
import Derived.Test.YtapijdimajgflaaDoorZ23
import Derived.Test.YtapijdimajgflaaDoorZ22
namespace Go.Proofs.YtapijdimajgflaaDoor
open Go.RowKit Go.Sort Go.ChangeShapes Go.WideShapes
set_option linter.unusedVariables false

theorem jn_tru2 (l : List ByteArray) (h : l ≠ []) : jn true l = 32 :: jn false l := by
  cases l with
  | nil => exact absurd rfl h
  | cons s r =>
    rw [jn, jn]
    simp

theorem txs_jtx : ∀ (T : List Tk) (a e : Nat), lnOk a e T → (∀ x ∈ T, byt x.t) → jn false (txs T) = jtx T
  | [], _, _, h, _ => absurd rfl (lnOk_ne h)
  | [x], a, e, h, _ => by
    rw [lnOk_cons] at h
    rcases h with ⟨_, h2, _⟩ | ⟨h1, _⟩
    · rw [txs, if_pos h2, txs, jn]; rfl
    · exact absurd rfl h1
  | x :: y :: r, a, e, h, hb => by
    rw [lnOk_cons] at h
    rcases h with ⟨h1, _⟩ | ⟨_, h2, m, _, _, h5⟩
    · cases h1
    · have ih := txs_jtx (y :: r) m e h5 (fun z hz => hb z (List.mem_cons_of_mem _ hz))
      rw [txs, if_neg h2, jn, strL_of (hb x (by simp))]
      show [] ++ x.t ++ jn true (txs (y :: r)) = x.t ++ (if r = [] then [] else 32 :: jtx (y :: r))
      rw [List.nil_append]
      congr 1
      rw [lnOk_cons] at h5
      rcases h5 with ⟨h6, h7, _⟩ | ⟨h6, h7, _⟩
      · rw [if_pos h6, h6, txs, if_pos h7, txs, jn]
      · rw [if_neg h6, ← ih]
        apply jn_tru2
        rw [txs, if_neg h7]
        simp

theorem lexF_byt : ∀ (f n ln : Nat) (r : List Int), byt r → ∀ x ∈ (lexF f n ln r).1, byt x.t ∧ x.t.length ≤ r.length
  | 0, _, _, _, _ => by simp [lexF]
  | f + 1, n, ln, r, hb => by
    have hbr : byt (r.drop (skp false r)) := hb.drop _
    have hrl : (r.drop (skp false r)).length ≤ r.length := by rw [List.length_drop]; omega
    rw [lexF_R]
    generalize ln + nls (r.take (skp false r)) = m
    generalize r.drop (skp false r) = r1 at *
    have ih := lexF_byt f (n + 1) m (r1.drop (tkr r1).2.2.1) (hbr.drop _)
    unfold lexR
    split
    · intro x hx
      simp at hx
      subst hx
      exact ⟨fun y hy => (by cases hy), by simp⟩
    · split
      · simp
      · split
        · simp
        · split
          · simp
          · split
            · intro x hx
              simp only [List.mem_cons] at hx
              rcases hx with rfl | hx
              · exact ⟨hbr.take _, by show (r1.take _).length ≤ _; rw [List.length_take]; omega⟩
              · have := ih x hx
                rw [List.length_drop] at this
                exact ⟨this.1, by omega⟩
            · simp

theorem jtx_byt : ∀ (T : List Tk), (∀ x ∈ T, byt x.t) → byt (jtx T)
  | [], _ => by intro x hx; cases hx
  | [_], _ => by intro x hx; cases hx
  | x :: y :: r, h => by
    have ih := jtx_byt (y :: r) (fun z hz => h z (List.mem_cons_of_mem _ hz))
    intro z hz
    have hz2 : z ∈ x.t ++ (if r = [] then [] else 32 :: jtx (y :: r)) := hz
    rcases List.mem_append.1 hz2 with q | q
    · exact h x (by simp) z q
    · split at q
      · cases q
      · rcases List.mem_cons.1 q with rfl | q
        · decide
        · exact ih z q

theorem jtx_len (M : Nat) : ∀ (T : List Tk), (∀ x ∈ T, x.t.length ≤ M) → (jtx T).length ≤ T.length * (M + 1)
  | [], _ => by simp [jtx]
  | [_], _ => by simp [jtx]
  | x :: y :: r, h => by
    have ih := jtx_len M (y :: r) (fun z hz => h z (List.mem_cons_of_mem _ hz))
    have hx := h x (by simp)
    show (x.t ++ (if r = [] then [] else 32 :: jtx (y :: r))).length ≤ _
    rw [List.length_append, List.length_cons, Nat.add_mul]
    split
    · simp only [List.length_nil]; omega
    · simp only [List.length_cons] at ih ⊢; omega

/-- The text of a text's tokens: it has the same tokens, in line 1. -/
theorem lexv_back {l : List Int} (hl : l.length ≤ 16384) (hb : byt l) (hc : (lexv l).2.2 = 0) :
    jn false (txs (lexv l).1) = jtx (lexv l).1 ∧ byt (jtx (lexv l).1) ∧ (jtx (lexv l).1).length ≤ (lexv l).1.length * 16385 ∧ ((jtx (lexv l).1).length ≤ 16384 → lexv (jtx (lexv l).1) = ((lexv l).1.map (inLn 1), 0, 0)) := by
  have hok := (lexv_lines hl hb).1 hc
  have e : lexv l = lexF (l.length + 1) 0 1 l := by unfold lexv; rw [if_neg (by omega)]
  have hby0 : ∀ x ∈ (lexv l).1, byt x.t ∧ x.t.length ≤ l.length := by rw [e]; exact lexF_byt _ _ _ _ hb
  have hby := fun x hx => (hby0 x hx).1
  refine ⟨txs_jtx _ _ _ hok.2 hby, jtx_byt _ hby, jtx_len 16384 _ (fun x hx => Nat.le_trans (hby0 x hx).2 hl), fun h => ?_⟩
  have h1 := lexF_back (l.length + 1) 0 1 l (by omega) hb (by rw [← e]; exact hc) ((jtx (lexv l).1).length + 1) 1 (by rw [← e]; omega)
  rw [← e] at h1
  have e2 : ∀ l' : List Int, l'.length ≤ 16384 → lexv l' = lexF (l'.length + 1) 0 1 l' := fun l' h => by unfold lexv; rw [if_neg (by omega)]
  exact (e2 _ h).trans h1

set_option maxRecDepth 100000 in
set_option maxHeartbeats 8000000 in
theorem tokens_walk (s : ByteArray) (w : World) (LL : Lay6 w) (hs : s.size ≤ 4611686018427387904) : Calls Tryd.prog 6 #[.string s] w fun e w' => e = .returned (.bool true) ∧ Below w.heap.size w w' := by
  have BB := Below.refl w.heap.size w
  have HL := Lib.hid LL
  have c1 := fun W L => lex_b s W L (by omega)
  have hlen := lexv_len (strL s)
  have hback : (lexv (strL s)).2.2 = 0 → s.size ≤ 16384 → _ := fun h q => lexv_back (l := strL s) (by rw [strL_len]; exact q) (strL_rng s) h
  have hlong : 16384 < s.size → (lexv (strL s)).2.2 ≠ 0 := fun h => by rw [lexv_long _ (by rw [strL_len]; exact h)]; decide
  rw [strL_len] at hlen
  obtain ⟨T, l1, e1, hT⟩ : ∃ T l e, lexv (strL s) = (T, l, e) := ⟨_, _, _, rfl⟩
  rw [hT] at c1 hlen hback hlong
  have hlen2 : T.length ≤ s.size + 1 := hlen
  have C1 := Lib.hid c1
  clear c1 LL hT hlen
  by_cases he : e1 = 0
  · subst he
    have hsz : s.size ≤ 16384 := by
      rcases Nat.lt_or_ge 16384 s.size with q | q
      · exact absurd rfl (hlong q)
      · exact q
    obtain ⟨h1, h2, h4, h3⟩ := hback rfl hsz
    simp only at h1 h2 h3 h4
    clear hback hlong
    obtain ⟨out, hout⟩ : ∃ out, strOfNums (jtx T) = out := ⟨_, rfl⟩
    have ho : strL out = jtx T := by rw [← hout]; exact strL_of h2
    have hoz : (jtx T).length = out.size := by rw [← ho, strL_len]
    have hjn : (jn false (txs T)) = strL out := by rw [h1, ho]
    have hjl : out.size ≤ 140737488355328 := by
      have : T.length * 16385 ≤ 16385 * 16385 := Nat.mul_le_mul_right _ (by omega)
      omega
    have CT := Lib.hid (fun A n c W R hn => text_b A n c T out W R hn hjl hjn.symm)
    have c2 : ∀ W, Lay6 W → out.size ≤ 16384 → Calls Tryd.prog 9 #[.string out] W (GivesL W (T.map (inLn 1), 0, 0)) := fun W L q => by
      have := lex_b out W L (by omega)
      rw [ho, h3 (by rw [hoz]; exact q)] at this
      exact this
    have C2 := Lib.hid c2
    clear c2
    clear h1 h2 h3 h4 hout ho hoz hjn
    by_cases hbig : 16384 < out.size
    · have hbi : (16384 : Int) < (out.size : Int) := by omega
      go_enter Tryd.func6, Tryd.ntmps6
      go_wp2_with (first
        | (go_at_call 9; (refine (C1.out _ (HL.out.on BB)).mono ?_); rintro _ W1 ⟨A, n, c, rfl, R, hc, B⟩; have R1 := Lib.hid R; have HN : Hid (T.length = n) := Lib.hid R.len; replace BB := bon BB B; clear B R)
        | (go_at_call 21; (refine (CT.out _ _ _ _ R1.out (by have := HN.out; omega)).mono ?_); rintro _ W2 ⟨rfl, B⟩; replace BB := bon BB B; clear B)
        | (go_at_call 10; (refine (zexample_b _ (HL.out.on BB)).mono ?_); rintro _ W3 ⟨rfl, B⟩; replace BB := bon BB B; clear B))
      go_ret
      exact ⟨rfl, BB⟩
    · have hbi : ¬ (16384 : Int) < (out.size : Int) := by omega
      have hle : out.size ≤ 16384 := by omega
      go_enter Tryd.func6, Tryd.ntmps6
      go_wp2_with (first
        | (go_at_call 9; (with_reducible refine (C1.out _ (HL.out.on BB)).mono ?_); rintro _ W1 ⟨A, n, c, rfl, R, hc, B⟩; have R1 := Lib.hid R; have HN : Hid (T.length = n) := Lib.hid R.len; replace BB := bon BB B; clear B R)
        | (go_at_call 21; (refine (CT.out _ _ _ _ R1.out (by have := HN.out; omega)).mono ?_); rintro _ W2 ⟨rfl, B⟩; have R2 := Lib.hid (R1.out.on B); replace BB := bon BB B; clear B)
        | (go_at_call 9; (with_reducible refine (C2.out _ (HL.out.on BB) hle).mono ?_); rintro _ W3 ⟨A2, n2, c2, rfl, R, hc2, B⟩; have R3 := Lib.hid R; have HN2 : n2 = n := (by have h9 := R.len; simp only [List.length_map] at h9; have := HN.out; omega); subst HN2; have R4 := Lib.hid (R2.out.on B); replace BB := bon BB B; clear B R))
      rename World => W
      go_loopw [47] (fun i wr => ∃ j : Nat, i = .int .i64 (j : Int) ∧ j ≤ n2 ∧ Below W.heap.size W wr) (fun i _ => n2 - (intOf i).toNat)
      case atStart => exact ⟨0, rfl, Nat.zero_le _, Below.refl _ _⟩
      case round =>
        obtain ⟨j, rfl, hj, BR⟩ := hrel
        rename World => wr
        have hnb : n2 ≤ 16385 := by have := HN.out; omega
        have HBR := Lib.hid BR
        by_cases hlt : j < n2
        · obtain ⟨b, off, x, rfl, -, hr, hx⟩ := (R4.out.on BR).at_ hlt
          obtain ⟨b2, off2, y, rfl, -, hr2, hy⟩ := (R3.out.on BR).at_ hlt
          have hy2 : y = inLn 1 x := by
            have := hy.out
            rw [List.getElem?_map, hx.out] at this
            exact (Option.some.inj this).symm
          subst hy2
          have p0 : wr.cell? ⟨b, off + j * 4, none⟩ = some (.int .i64 x.k) := hr 0 _ rfl
          have p1 : wr.cell? ⟨b, off + j * 4 + 1, none⟩ = some (.string (strOfNums x.t)) := hr 1 _ rfl
          have p2 : wr.cell? ⟨b, off + j * 4 + 2, none⟩ = some (.int .i64 x.v) := hr 2 _ rfl
          have q0 : wr.cell? ⟨b2, off2 + j * 4, none⟩ = some (.int .i64 x.k) := hr2 0 _ rfl
          have q1 : wr.cell? ⟨b2, off2 + j * 4 + 1, none⟩ = some (.string (strOfNums x.t)) := hr2 1 _ rfl
          have q2 : wr.cell? ⟨b2, off2 + j * 4 + 2, none⟩ = some (.int .i64 x.v) := hr2 2 _ rfl
          have q3 : wr.cell? ⟨b2, off2 + j * 4 + 3, none⟩ = some (.int .i64 1) := hr2 3 _ rfl
          obtain ⟨tt, htt⟩ : ∃ tt, strOfNums x.t = tt := ⟨_, rfl⟩
          rw [htt] at p1 q1
          have BX := Lib.hid BB
          replace BB := Below.refl wr.heap.size wr
          have hlti : (j : Int) < (n2 : Int) := by omega
          clear hr hr2 hx hy htt BR
          go_wp2_with fail
          have k_p0 := cell_regrown p0
          have k_p1 := cell_regrown p1
          have k_p2 := cell_regrown p2
          have k_q0 := cell_regrown q0
          have k_q1 := cell_regrown q1
          have k_q2 := cell_regrown q2
          have k_q3 := cell_regrown q3
          refine wp_region_quiet_below (by kernel_rfl) (by kernel_rfl) ?_
          repeat (first | go_big_quiet_step ((first | fail)) | quiet_step ((first | fail)))
          refine wpQuiet_nil ?_
          intro W hw'
          have B := below_regrown' hw'
          clear hw' k_p0 k_p1 k_p2 k_q0 k_q1 k_q2 k_q3
          replace BB := bon BB B
          replace p0 := cell_below B p0
          replace p1 := cell_below B p1
          replace p2 := cell_below B p2
          replace q0 := cell_below B q0
          replace q1 := cell_below B q1
          replace q2 := cell_below B q2
          replace q3 := cell_below B q3
          go_wp2_with fail
          go_roundw
          case rel => exact ⟨j + 1, by go_num, by omega, HBR.out.trans (BB.mono HBR.out.size)⟩
          case measure => simp [intOf] <;> omega
        · obtain rfl : j = n2 := by omega
          have BX := Lib.hid (bon BB BR)
          have hlti : ¬ (j : Int) < (j : Int) := by omega
          clear BB BR
          go_wp2_with (go_at_call 10; (refine (zexample_b _ (HL.out.on BX.out)).mono ?_); rintro _ W9 ⟨rfl, B⟩; have B9 := Lib.hid (bon BX.out B); clear B)
          go_ret
          exact ⟨rfl, B9.out⟩
  · have hei : (e1 == 0) = false := by simpa using he
    clear hback hlong
    go_enter Tryd.func6, Tryd.ntmps6
    go_wp2_with (first
      | (go_at_call 9; (refine (C1.out _ (HL.out.on BB)).mono ?_); rintro _ W1 ⟨A, n, c, rfl, R, hc, B⟩; replace BB := bon BB B; clear B R)
      | (go_at_call 10; (refine (zexample_b _ (HL.out.on BB)).mono ?_); rintro _ W3 ⟨rfl, B⟩; replace BB := bon BB B; clear B))
    go_ret
    exact ⟨rfl, BB⟩

end Go.Proofs.YtapijdimajgflaaDoor
