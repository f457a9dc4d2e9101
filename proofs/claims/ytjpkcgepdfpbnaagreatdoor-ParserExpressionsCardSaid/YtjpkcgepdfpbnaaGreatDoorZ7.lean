/- The scanner's block; rest; skip of the program. -/
import Derived.Test.YtjpkcgepdfpbnaaGreatDoorZ6
import Derived.Test.YtjpkcgepdfpbnaaGreatDoorEBox
import Derived.Test.YtjpkcgepdfpbnaaGreatDoorTreeC
import Derived.Test.YtjpkcgepdfpbnaaGreatDoorTailK
import Derived.Deep.LoopGhost
import Derived.WalkMore
import Derived.Test.YtjpkcgepdfpbnaaGreatDoorZ5
namespace Go.Proofs.YtjpkcgepdfpbnaaGreatDoor
open Go.RowKit Go.Sort Go.ChangeShapes Go.WideShapes
set_option linter.unusedVariables false

/-- A token's cells. -/
def tokC (x : Tk) : List Value := [.int .i64 x.k, .string (strOfNums x.t), .int .i64 x.v, .int .i64 x.ln]

theorem tokEnc : Enc tokC 4 := ⟨fun _ => rfl, by decide, fun x v hv => by simp [tokC] at hv; rcases hv with rfl | rfl | rfl | rfl <;> rfl⟩

theorem elTok : ElemE Tryz.prog 55 60 4 40 := elemE_of Tryz.underlying55 (by kernel_rfl)

abbrev OwnT (w : World) (base : Nat) (A : Option Addr) (n c : Nat) (l : List Tk) : Prop := OwnE tokC 4 w base 60 A n c l
abbrev RdT (w : World) (B : Nat) (A : Option Addr) (n : Nat) (l : List Tk) : Prop := RdE tokC 4 w B A n l

/-- The scanner in block b: the text, the place, the line, the tokens ahead. -/
structure Scn (W : World) (b : Nat) (s : ByteArray) (p ln : Nat) (out : List Tk) : Prop where
  txt : W.cell? ⟨b, 0, none⟩ = some (.string s)
  pos : W.cell? ⟨b, 1, none⟩ = some (.int .i64 (p : Int))
  lin : W.cell? ⟨b, 2, none⟩ = some (.int .i64 (ln : Int))
  tok : ∃ A c, W.cell? ⟨b, 3, none⟩ = some (.slice A out.length c) ∧ OwnT W (b + 1) A out.length c out
  fre : ∀ i, W.frozen? ⟨b, i, none⟩ = false

section
variable {W V : World} {b : Nat} {s : ByteArray} {p ln : Nat} {out : List Tk}

theorem Scn.lt (h : Scn W b s p ln out) : b < W.heap.size := block_lt_of_cell h.txt

theorem Scn.on (h : Scn W b s p ln out) (B : Below W.heap.size W V) : Scn V b s p ln out := by
  obtain ⟨A, c, h3, own⟩ := h.tok
  exact ⟨cell_below B h.txt, cell_below B h.pos, cell_below B h.lin, ⟨A, c, cell_below B h3, own.on B⟩, fun i => (B.frozen (p := ⟨b, i, none⟩) h.lt).trans (h.fre i)⟩

theorem own_set {A : Option Addr} {n c i : Nat} {v : Value} (own : OwnT W (b + 1) A n c out) : OwnT (W.setCell ⟨b, i, none⟩ v) (b + 1) A n c out :=
  own.stay (fun g hg => Below.heap_setCell _ _ _ _ (by have := (own.lt hg).1; show g.block ≠ b; omega)) (by rw [World.size_setCell]; exact own.base_le)

theorem Scn.setPos (h : Scn W b s p ln out) (q : Nat) : Scn (W.setCell ⟨b, 1, none⟩ (.int .i64 (q : Int))) b s q ln out := by
  obtain ⟨A, c, h3, own⟩ := h.tok
  refine ⟨?_, World.cell?_setCell_same _ _ _ h.pos, ?_, ⟨A, c, ?_, own_set own⟩, fun i => by rw [World.frozen?_setCell]; exact h.fre i⟩
  · rw [World.cell?_setCell_other _ _ _ _ (by intro e; injection e; omega)]; exact h.txt
  · rw [World.cell?_setCell_other _ _ _ _ (by intro e; injection e; omega)]; exact h.lin
  · rw [World.cell?_setCell_other _ _ _ _ (by intro e; injection e; omega)]; exact h3

theorem Scn.setLin (h : Scn W b s p ln out) (q : Nat) : Scn (W.setCell ⟨b, 2, none⟩ (.int .i64 (q : Int))) b s p q out := by
  obtain ⟨A, c, h3, own⟩ := h.tok
  refine ⟨?_, ?_, World.cell?_setCell_same _ _ _ h.lin, ⟨A, c, ?_, own_set own⟩, fun i => by rw [World.frozen?_setCell]; exact h.fre i⟩
  · rw [World.cell?_setCell_other _ _ _ _ (by intro e; injection e; omega)]; exact h.txt
  · rw [World.cell?_setCell_other _ _ _ _ (by intro e; injection e; omega)]; exact h.pos
  · rw [World.cell?_setCell_other _ _ _ _ (by intro e; injection e; omega)]; exact h3

theorem below_set (i : Nat) (v : Value) : Below b W (W.setCell ⟨b, i, none⟩ v) := (Below.refl _ _).setCell (Nat.le_refl b) _
end

theorem noGoto_end {P : Program} {fn : Func} {R : Ending → World → Prop} {a : Act} {w : World} {v : Value} (hr : (results fn a.tmps).run P w = .ok v w) (hd : a.defers = []) (hR : R (.returned v) w) :
    Exit.noGoto (bodyPost P fn R) .normal a w := ⟨hd, v, hr, hR⟩

theorem bset {b : Nat} {w W : World} (h : Below b w W) (i : Nat) (v : Value) : Below b w (W.setCell ⟨b, i, none⟩ v) := h.setCell (Nat.le_refl _) _
theorem on_b {b : Nat} {w wr W : World} {s : ByteArray} {p ln : Nat} {out : List Tk} (h : Below b w wr) (S : Scn wr b s p ln out) (B : Below wr.heap.size wr W) : Below b w W := h.trans (B.mono (Nat.le_of_lt S.lt))

theorem bl {P : Program} {f : FuncId} {av : Array Value} {w : World} {x : Ending} (h : Calls P f av w fun e w' => e = x ∧ w = w') : Calls P f av w fun e w' => e = x ∧ Below w.heap.size w w' :=
  h.mono fun e w' ⟨he, hw⟩ => ⟨he, by rw [← hw]; exact Below.refl _ _⟩

theorem rest_q (b : Nat) (s : ByteArray) (p : Nat) (w : World) (c0 : w.cell? ⟨b, 0, none⟩ = some (.string s)) (c1 : w.cell? ⟨b, 1, none⟩ = some (.int .i64 (p : Int))) (hp : p ≤ s.size) (hs : s.size ≤ 4611686018427387904) :
    Calls Tryz.prog 106 #[.pointer (some ⟨b, 0, none⟩)] w fun e w' => e = .returned (.string (s.extract p s.size)) ∧ Below w.heap.size w w' := by
  have hpi : (p : Int) ≤ (s.size : Int) := by omega
  have BB : Below w.heap.size w w := Below.refl _ _
  go_enter Tryz.func106, Tryz.ntmps106
  go_wp2_with fail
  have k_c0 := cell_regrown c0
  have k_c1 := cell_regrown c1
  refine wp_region_quiet_below (by kernel_rfl) (by kernel_rfl) ?_
  repeat (first | go_big_quiet_step ((first | fail)) | quiet_step ((first | fail)))
  refine wpQuiet_nil ?_
  intro W hw'
  have B := below_regrown' hw'
  clear hw' k_c0 k_c1
  replace BB := bon BB B
  replace c0 := cell_below B c0
  replace c1 := cell_below B c1
  go_wp2_with fail
  go_ret
  exact ⟨rfl, BB⟩

theorem hasPre2 (a b : UInt8) (L : List UInt8) : Lib.hasPrefix L [a, b] = (decide ((nI L).head? = some (a.toNat : Int)) && decide ((nI L)[1]? = some (b.toNat : Int))) := by
  have e : ∀ x y : UInt8, decide ((x.toNat : Int) = (y.toNat : Int)) = (y == x) := fun x y => by
    by_cases h : y = x
    · subst h; simp
    · have : ¬ (x.toNat : Int) = (y.toNat : Int) := fun e => h (UInt8.toNat_inj.1 (by omega))
      simp [h, this]
  match L with
  | [] => simp [Lib.hasPrefix, nI]
  | [x] => simp [Lib.hasPrefix, nI, List.isPrefixOf]
  | x :: y :: r => simp [Lib.hasPrefix, nI, List.isPrefixOf, e]

/-- Is a comment's beginning here? -/
def cmt (l : List Int) (q : Nat) : Bool := decide (l[q]? = some 47) && decide (l[q + 1]? = some 47)

theorem hasPrefix_q (s : ByteArray) (q : Nat) (w : World) : Calls Tryz.prog 105 #[.string (s.extract q s.size), .string ⟨#[47, 47]⟩] w fun e w' => e = .returned (.bool (cmt (strL s) q)) ∧ w = w' :=
  (Tryz.strings_HasPrefix (s.extract q s.size) ⟨#[47, 47]⟩ w).mono fun e w' ⟨he, hw⟩ => ⟨by
    have h : Lib.hasPrefix (s.extract q s.size).data.toList [47, 47] = cmt (strL s) q := by
      rw [hasPre2, ← strL_nI, strL_from]
      unfold cmt
      rw [List.head?_drop, List.getElem?_drop]
      rfl
    rw [he]
    show Ending.returned (.bool (Lib.hasPrefix (s.extract q s.size).data.toList [47, 47])) = _
    rw [h], hw.symm⟩

/-! ### Separators, by places -/

/-- From place q, line lq, the separators end at E, line L. -/
def Skf (l : List Int) (q lq E L : Nat) : Prop := q + skp false (l.drop q) = E ∧ lq + nls ((l.drop q).take (skp false (l.drop q))) = L

theorem nls_cons (c : Int) (r : List Int) (n : Nat) : nls ((c :: r).take (n + 1)) = (if c = 10 then 1 else 0) + nls (r.take n) := by
  unfold nls
  rw [List.take_succ_cons, List.count_cons]
  by_cases h : c = 10
  · rw [if_pos h, if_pos (by simpa using h)]; omega
  · rw [if_neg h, if_neg (by simpa using h)]; omega

section
variable {l : List Int} {q lq E L : Nat} {c : Int}

theorem drop_at (h : l[q]? = some c) : l.drop q = c :: l.drop (q + 1) := by
  obtain ⟨hq, rfl⟩ := List.getElem?_eq_some_iff.1 h
  exact List.drop_eq_getElem_cons hq

theorem drop_head (q : Nat) : (l.drop (q + 1)).head? = l[q + 1]? := List.head?_drop

theorem skf_ws (h : l[q]? = some c) (hc : c = 10 ∨ c = 32 ∨ c = 9) (K : Skf l q lq E L) : Skf l (q + 1) (lq + if c = 10 then 1 else 0) E L := by
  unfold Skf at K ⊢
  rw [drop_at h, skp_ws hc, nls_cons] at K
  omega

theorem skf_cm (h : l[q]? = some 47) (h2 : l[q + 1]? = some 47) (K : Skf l q lq E L) : Skf l (q + spn isLin (l.drop q)) lq E L := by
  unfold Skf at K ⊢
  have e := drop_at h
  have hk : skp false (l.drop q) = spn isLin (l.drop q) + skp false ((l.drop q).drop (spn isLin (l.drop q))) := by
    have := skp_cm (c := 47) (r := l.drop (q + 1)) rfl (by rw [drop_head]; exact h2)
    rw [← e] at this
    exact this
  have hn : nls ((l.drop q).take (spn isLin (l.drop q))) = 0 := nls_spn (by decide) _
  rw [List.drop_drop] at hk
  rw [hk] at K
  rw [List.take_add, List.drop_drop] at K
  unfold nls at K hn ⊢
  rw [List.count_append] at K
  omega

theorem skf_no (h : l[q]? = some c) (hc : ¬ (c = 10 ∨ c = 32 ∨ c = 9)) (h2 : cmt l q = false) (K : Skf l q lq E L) : q = E ∧ lq = L := by
  unfold Skf at K
  rw [drop_at h, skp_no hc (by
    intro ⟨a, b⟩
    rw [drop_head] at b
    subst a
    unfold cmt at h2
    rw [h, b] at h2
    simp at h2)] at K
  unfold nls at K
  simpa using K

theorem skf_end (h : l.length ≤ q) (K : Skf l q lq E L) : q = E ∧ lq = L := by
  unfold Skf at K
  rw [List.drop_eq_nil_of_le h] at K
  simpa [skp, nls] using K

theorem skf_le (h : q ≤ l.length) (K : Skf l q lq E L) : q ≤ E ∧ E ≤ l.length ∧ lq ≤ L := by
  unfold Skf at K
  have := skp_le false (l.drop q)
  rw [List.length_drop] at this
  omega
end

set_option maxRecDepth 100000 in
set_option maxHeartbeats 2000000 in
theorem skip_b (b : Nat) (s : ByteArray) (p ln E L : Nat) (out : List Tk) (w : World) (SS : Scn w b s p ln out) (K : Skf (strL s) p ln E L) (hp : p ≤ s.size) (hs : s.size ≤ 4611686018427387904) (hL : L ≤ 4611686018427387904) :
    Calls Tryz.prog 85 #[.pointer (some ⟨b, 0, none⟩)] w fun e w' => e = .returned (.tuple #[]) ∧ Scn w' b s E L out ∧ Below b w w' := by
  have K0 := Lib.hid K
  have S0 := Lib.hid SS
  clear K SS
  go_enter Tryz.func85, Tryz.ntmps85
  go_wp2_with fail
  go_step3
  go_wp2_with fail
  go_step3
  go_wp2_with fail
  go_loopg [] (s.size - p) (fun gk wr => ∃ q lq : Nat, q ≤ s.size ∧ Scn wr b s q lq out ∧ Below b w wr ∧ Skf (strL s) q lq E L ∧ gk = s.size - q)
  case atStart => exact ⟨p, ln, hp, S0.out, Below.refl _ _, K0.out, rfl⟩
  case round =>
    clear K0 S0
    obtain ⟨q, lq, hq, SS, Bw, K, hgk⟩ := hrel
    rename World => wr
    have c0 := SS.txt
    have c1 := SS.pos
    have c2 := SS.lin
    have z1 := SS.fre 1
    have z2 := SS.fre 2
    have BB := Below.refl wr.heap.size wr
    have SH := Lib.hid SS
    have BH := Lib.hid Bw
    have KH := Lib.hid K
    have hle := skf_le (by rw [strL_len]; exact hq) K
    rw [strL_len] at hle
    have HG := Lib.hid hgk
    clear SS Bw K hgk
    by_cases hlt : q < s.size
    · have hx := Lib.hid (strL_at s q hlt)
      have hlti : (q : Int) < (s.size : Int) := by omega
      obtain ⟨x, hxx⟩ : ∃ x : Int, ((s[q]).toNat : Int) = x := ⟨_, rfl⟩
      rw [hxx] at hx
      by_cases x10 : x = 10
      · subst x10
        have e1 : (((s[q]).toNat : Int) == 10) = true := by simpa using hxx
        have K1 := Lib.hid (skf_ws hx.out (.inl rfl) KH.out)
        have hl2 := skf_le (q := q + 1) (by rw [strL_len]; omega) K1.out
        rw [if_pos rfl] at hl2
        clear hxx
        go_wp2_with fail
        have k_c0 := cell_regrown c0
        have k_c1 := cell_regrown c1
        have k_c2 := cell_regrown c2
        refine wp_region_quiet_below (by kernel_rfl) (by kernel_rfl) ?_
        repeat (first | go_big_quiet_step ((first | fail)) | quiet_step ((first | fail)))
        refine wpQuiet_nil ?_
        intro W hw'
        have B := below_regrown' hw'
        clear hw' k_c0 k_c1 k_c2
        replace BB := bon BB B
        replace z1 := frozen_below B c1 z1
        replace z2 := frozen_below B c2 z2
        replace c0 := cell_below B c0
        replace c1 := cell_below B c1
        replace c2 := cell_below B c2
        go_wp2_with fail
        have k_c0 := cell_regrown c0
        have k_c1 := cell_regrown c1
        have k_c2 := cell_regrown c2
        refine wp_region_quiet_below (by kernel_rfl) (by kernel_rfl) ?_
        repeat (first | go_big_quiet_step ((first | fail)) | quiet_step ((first | fail)))
        refine wpQuiet_nil ?_
        intro W hw'
        have B := below_regrown' hw'
        clear hw' k_c0 k_c1 k_c2
        replace BB := bon BB B
        replace z1 := frozen_below B c1 z1
        replace z2 := frozen_below B c2 z2
        replace c0 := cell_below B c0
        replace c1 := cell_below B c1
        replace c2 := cell_below B c2
        go_wp2_with fail
        go_roundg (s.size - (q + 1))
        case measure => rw [HG.out]; omega
        case rel => exact ⟨q + 1, lq + 1, by omega, ((SH.out.on BB).setLin (lq + 1)).setPos (q + 1), bset (bset (on_b BH.out SH.out BB) _ _) _ _, by simpa using K1.out, rfl⟩
      · have e1 : (((s[q]).toNat : Int) == 10) = false := by rw [hxx]; simpa using x10
        by_cases x32 : x = 32
        · subst x32
          have e2 : (((s[q]).toNat : Int) == 32) = true := by simpa using hxx
          have K1 := Lib.hid (skf_ws hx.out (.inr (.inl rfl)) KH.out)
          clear hxx
          go_wp2_with fail
          have k_c0 := cell_regrown c0
          have k_c1 := cell_regrown c1
          have k_c2 := cell_regrown c2
          refine wp_region_quiet_below (by kernel_rfl) (by kernel_rfl) ?_
          repeat (first | go_big_quiet_step ((first | fail)) | quiet_step ((first | fail)))
          refine wpQuiet_nil ?_
          intro W hw'
          have B := below_regrown' hw'
          clear hw' k_c0 k_c1 k_c2
          replace BB := bon BB B
          replace z1 := frozen_below B c1 z1
          replace z2 := frozen_below B c2 z2
          replace c0 := cell_below B c0
          replace c1 := cell_below B c1
          replace c2 := cell_below B c2
          go_wp2_with fail
          have k_c0 := cell_regrown c0
          have k_c1 := cell_regrown c1
          have k_c2 := cell_regrown c2
          refine wp_region_quiet_below (by kernel_rfl) (by kernel_rfl) ?_
          repeat (first | go_big_quiet_step ((first | fail)) | quiet_step ((first | fail)))
          refine wpQuiet_nil ?_
          intro W hw'
          have B := below_regrown' hw'
          clear hw' k_c0 k_c1 k_c2
          replace BB := bon BB B
          replace z1 := frozen_below B c1 z1
          replace z2 := frozen_below B c2 z2
          replace c0 := cell_below B c0
          replace c1 := cell_below B c1
          replace c2 := cell_below B c2
          go_wp2_with fail
          have k_c0 := cell_regrown c0
          have k_c1 := cell_regrown c1
          have k_c2 := cell_regrown c2
          refine wp_region_quiet_below (by kernel_rfl) (by kernel_rfl) ?_
          repeat (first | go_big_quiet_step ((first | fail)) | quiet_step ((first | fail)))
          refine wpQuiet_nil ?_
          intro W hw'
          have B := below_regrown' hw'
          clear hw' k_c0 k_c1 k_c2
          replace BB := bon BB B
          replace z1 := frozen_below B c1 z1
          replace z2 := frozen_below B c2 z2
          replace c0 := cell_below B c0
          replace c1 := cell_below B c1
          replace c2 := cell_below B c2
          go_wp2_with fail
          go_roundg (s.size - (q + 1))
          case measure => rw [HG.out]; omega
          case rel => exact ⟨q + 1, lq, by omega, (SH.out.on BB).setPos (q + 1), bset (on_b BH.out SH.out BB) _ _, by simpa using K1.out, rfl⟩
        · have e2 : (((s[q]).toNat : Int) == 32) = false := by rw [hxx]; simpa using x32
          by_cases x9 : x = 9
          · subst x9
            have e3 : (((s[q]).toNat : Int) == 9) = true := by simpa using hxx
            have K1 := Lib.hid (skf_ws hx.out (.inr (.inr rfl)) KH.out)
            clear hxx
            go_wp2_with fail
            have k_c0 := cell_regrown c0
            have k_c1 := cell_regrown c1
            have k_c2 := cell_regrown c2
            refine wp_region_quiet_below (by kernel_rfl) (by kernel_rfl) ?_
            repeat (first | go_big_quiet_step ((first | fail)) | quiet_step ((first | fail)))
            refine wpQuiet_nil ?_
            intro W hw'
            have B := below_regrown' hw'
            clear hw' k_c0 k_c1 k_c2
            replace BB := bon BB B
            replace z1 := frozen_below B c1 z1
            replace z2 := frozen_below B c2 z2
            replace c0 := cell_below B c0
            replace c1 := cell_below B c1
            replace c2 := cell_below B c2
            go_wp2_with fail
            have k_c0 := cell_regrown c0
            have k_c1 := cell_regrown c1
            have k_c2 := cell_regrown c2
            refine wp_region_quiet_below (by kernel_rfl) (by kernel_rfl) ?_
            repeat (first | go_big_quiet_step ((first | fail)) | quiet_step ((first | fail)))
            refine wpQuiet_nil ?_
            intro W hw'
            have B := below_regrown' hw'
            clear hw' k_c0 k_c1 k_c2
            replace BB := bon BB B
            replace z1 := frozen_below B c1 z1
            replace z2 := frozen_below B c2 z2
            replace c0 := cell_below B c0
            replace c1 := cell_below B c1
            replace c2 := cell_below B c2
            go_wp2_with fail
            have k_c0 := cell_regrown c0
            have k_c1 := cell_regrown c1
            have k_c2 := cell_regrown c2
            refine wp_region_quiet_below (by kernel_rfl) (by kernel_rfl) ?_
            repeat (first | go_big_quiet_step ((first | fail)) | quiet_step ((first | fail)))
            refine wpQuiet_nil ?_
            intro W hw'
            have B := below_regrown' hw'
            clear hw' k_c0 k_c1 k_c2
            replace BB := bon BB B
            replace z1 := frozen_below B c1 z1
            replace z2 := frozen_below B c2 z2
            replace c0 := cell_below B c0
            replace c1 := cell_below B c1
            replace c2 := cell_below B c2
            go_wp2_with fail
            go_roundg (s.size - (q + 1))
            case measure => rw [HG.out]; omega
            case rel => exact ⟨q + 1, lq, by omega, (SH.out.on BB).setPos (q + 1), bset (on_b BH.out SH.out BB) _ _, by simpa using K1.out, rfl⟩
          · have e3 : (((s[q]).toNat : Int) == 9) = false := by rw [hxx]; simpa using x9
            have CH := Lib.hid (fun W => hasPrefix_q s q W)
            have CR := Lib.hid (fun W c0 c1 => rest_q b s q W c0 c1 hq hs)
            cases hc : cmt (strL s) q
            · obtain ⟨rfl, rfl⟩ := skf_no hx.out (by omega) hc KH.out
              rw [hc] at CH
              clear hxx hc
              go_wp2_with fail
              have k_c0 := cell_regrown c0
              have k_c1 := cell_regrown c1
              have k_c2 := cell_regrown c2
              refine wp_region_quiet_below (by kernel_rfl) (by kernel_rfl) ?_
              repeat (first | go_big_quiet_step ((first | fail)) | quiet_step ((first | fail)))
              refine wpQuiet_nil ?_
              intro W hw'
              have B := below_regrown' hw'
              clear hw' k_c0 k_c1 k_c2
              replace BB := bon BB B
              replace z1 := frozen_below B c1 z1
              replace z2 := frozen_below B c2 z2
              replace c0 := cell_below B c0
              replace c1 := cell_below B c1
              replace c2 := cell_below B c2
              go_wp2_with fail
              have k_c0 := cell_regrown c0
              have k_c1 := cell_regrown c1
              have k_c2 := cell_regrown c2
              refine wp_region_quiet_below (by kernel_rfl) (by kernel_rfl) ?_
              repeat (first | go_big_quiet_step ((first | fail)) | quiet_step ((first | fail)))
              refine wpQuiet_nil ?_
              intro W hw'
              have B := below_regrown' hw'
              clear hw' k_c0 k_c1 k_c2
              replace BB := bon BB B
              replace z1 := frozen_below B c1 z1
              replace z2 := frozen_below B c2 z2
              replace c0 := cell_below B c0
              replace c1 := cell_below B c1
              replace c2 := cell_below B c2
              go_wp2_with fail
              have k_c0 := cell_regrown c0
              have k_c1 := cell_regrown c1
              have k_c2 := cell_regrown c2
              refine wp_region_quiet_below (by kernel_rfl) (by kernel_rfl) ?_
              repeat (first | go_big_quiet_step ((first | fail)) | quiet_step ((first | fail)))
              refine wpQuiet_nil ?_
              intro W hw'
              have B := below_regrown' hw'
              clear hw' k_c0 k_c1 k_c2
              replace BB := bon BB B
              replace z1 := frozen_below B c1 z1
              replace z2 := frozen_below B c2 z2
              replace c0 := cell_below B c0
              replace c1 := cell_below B c1
              replace c2 := cell_below B c2
              go_wp2_with (first
                | (go_at_call 106; (refine (CR.out _ c0 c1).mono ?_); rintro _ W1 ⟨rfl, B⟩; (replace BB := bon BB B; replace z1 := frozen_below B c1 z1; replace z2 := frozen_below B c2 z2; replace c0 := cell_below B c0; replace c1 := cell_below B c1; replace c2 := cell_below B c2))
                | (go_at_call 105; (refine (CH.out _).mono ?_); rintro _ _ ⟨rfl, rfl⟩))
              refine noGoto_end (results_none rfl _ _ _) rfl ?_
              exact ⟨rfl, SH.out.on BB, on_b BH.out SH.out BB⟩
            · have hcc : x = 47 ∧ (strL s)[q + 1]? = some 47 := by
                unfold cmt at hc
                rw [hx.out] at hc
                simpa using hc
              obtain ⟨rfl, h47⟩ := hcc
              have K1 := Lib.hid (skf_cm hx.out h47 KH.out)
              have hsp := spn_le isLin ((strL s).drop q)
              rw [List.length_drop, strL_len] at hsp
              have hpos : 1 ≤ spn isLin ((strL s).drop q) := by
                rw [drop_at hx.out, spn_cons, if_pos (by decide)]
                omega
              have CS := Lib.hid (fun W => bl (spanLine (s.extract q s.size) W (by rw [size_from]; omega)))
              rw [strL_from] at CS
              obtain ⟨m, hm⟩ : ∃ m, spn isLin ((strL s).drop q) = m := ⟨_, rfl⟩
              rw [hm] at K1 hsp hpos CS
              rw [hc] at CH
              clear hxx hc hm h47
              go_wp2_with fail
              have k_c0 := cell_regrown c0
              have k_c1 := cell_regrown c1
              have k_c2 := cell_regrown c2
              refine wp_region_quiet_below (by kernel_rfl) (by kernel_rfl) ?_
              repeat (first | go_big_quiet_step ((first | fail)) | quiet_step ((first | fail)))
              refine wpQuiet_nil ?_
              intro W hw'
              have B := below_regrown' hw'
              clear hw' k_c0 k_c1 k_c2
              replace BB := bon BB B
              replace z1 := frozen_below B c1 z1
              replace z2 := frozen_below B c2 z2
              replace c0 := cell_below B c0
              replace c1 := cell_below B c1
              replace c2 := cell_below B c2
              go_wp2_with fail
              have k_c0 := cell_regrown c0
              have k_c1 := cell_regrown c1
              have k_c2 := cell_regrown c2
              refine wp_region_quiet_below (by kernel_rfl) (by kernel_rfl) ?_
              repeat (first | go_big_quiet_step ((first | fail)) | quiet_step ((first | fail)))
              refine wpQuiet_nil ?_
              intro W hw'
              have B := below_regrown' hw'
              clear hw' k_c0 k_c1 k_c2
              replace BB := bon BB B
              replace z1 := frozen_below B c1 z1
              replace z2 := frozen_below B c2 z2
              replace c0 := cell_below B c0
              replace c1 := cell_below B c1
              replace c2 := cell_below B c2
              go_wp2_with fail
              have k_c0 := cell_regrown c0
              have k_c1 := cell_regrown c1
              have k_c2 := cell_regrown c2
              refine wp_region_quiet_below (by kernel_rfl) (by kernel_rfl) ?_
              repeat (first | go_big_quiet_step ((first | fail)) | quiet_step ((first | fail)))
              refine wpQuiet_nil ?_
              intro W hw'
              have B := below_regrown' hw'
              clear hw' k_c0 k_c1 k_c2
              replace BB := bon BB B
              replace z1 := frozen_below B c1 z1
              replace z2 := frozen_below B c2 z2
              replace c0 := cell_below B c0
              replace c1 := cell_below B c1
              replace c2 := cell_below B c2
              go_wp2_with (first
                | (go_at_call 106; (refine (CR.out _ c0 c1).mono ?_); rintro _ W1 ⟨rfl, B⟩; (replace BB := bon BB B; replace z1 := frozen_below B c1 z1; replace z2 := frozen_below B c2 z2; replace c0 := cell_below B c0; replace c1 := cell_below B c1; replace c2 := cell_below B c2))
                | (go_at_call 105; (refine (CH.out _).mono ?_); rintro _ _ ⟨rfl, rfl⟩))
              have k_c0 := cell_regrown c0
              have k_c1 := cell_regrown c1
              have k_c2 := cell_regrown c2
              refine wp_region_tail (n := 8) (by kernel_rfl) (by kernel_rfl) ?_
              simp only [List.take_succ_cons, List.take_zero, List.drop_succ_cons, List.drop_zero]
              repeat (first | go_big_quiet_step ((first | (go_at_call 106; exact Calls.regrown_of (CR.out _ (cell_below (below_regrown _ _ _) c0) (cell_below (below_regrown _ _ _) c1))) | (go_at_call 107; exact Calls.regrown_of (CS.out _)))) | quiet_step ((first | (go_at_call 106; exact Calls.regrown_of (CR.out _ (cell_below (below_regrown _ _ _) c0) (cell_below (below_regrown _ _ _) c1))) | (go_at_call 107; exact Calls.regrown_of (CS.out _)))))
              refine wpQuiet_nil ?_
              intro W hw'
              have B := below_regrown' hw'
              clear hw' k_c0 k_c1 k_c2
              replace BB := bon BB B
              replace z1 := frozen_below B c1 z1
              replace z2 := frozen_below B c2 z2
              replace c0 := cell_below B c0
              replace c1 := cell_below B c1
              replace c2 := cell_below B c2
              go_wp2_with fail
              go_roundg (s.size - (q + m))
              case measure => rw [HG.out]; omega
              case rel => exact ⟨q + m, lq, by omega, (SH.out.on BB).setPos (q + m), bset (on_b BH.out SH.out BB) _ _, K1.out, rfl⟩
    · obtain rfl : q = s.size := by omega
      obtain ⟨rfl, rfl⟩ := skf_end (by rw [strL_len]; omega) KH.out
      go_wp2_with fail
      have k_c0 := cell_regrown c0
      have k_c1 := cell_regrown c1
      have k_c2 := cell_regrown c2
      refine wp_region_quiet_below (by kernel_rfl) (by kernel_rfl) ?_
      repeat (first | go_big_quiet_step ((first | fail)) | quiet_step ((first | fail)))
      refine wpQuiet_nil ?_
      intro W hw'
      have B := below_regrown' hw'
      clear hw' k_c0 k_c1 k_c2
      replace BB := bon BB B
      replace z1 := frozen_below B c1 z1
      replace z2 := frozen_below B c2 z2
      replace c0 := cell_below B c0
      replace c1 := cell_below B c1
      replace c2 := cell_below B c2
      go_wp2_with fail
      refine noGoto_end (results_none rfl _ _ _) rfl ?_
      exact ⟨rfl, SH.out.on BB, on_b BH.out SH.out BB⟩

end Go.Proofs.YtjpkcgepdfpbnaaGreatDoor
