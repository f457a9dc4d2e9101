/- Reduce and Chain of the reference; MipmapChain's walk. -/
import Derived.Test.YtcjlgfadjedgbaaL9
import Derived.Test.YtcjlgfadjedgbaaL10a
import Derived.Test.YtcjlgfadjedgbaaL10b
namespace Go.Proofs.Ytcjlgfadjedgbaa
open Go.RowKit Go.Sort Go.ChangeShapes Go.WideShapes
set_option linter.unusedVariables false

section
variable {P : Program} {ops : Array Oper} {Q : Exit → Act → World → Prop} {rest : List Oper} {a : Act} {W : World}
/-- An image loaded, an image stored, as the operations are written out: an arm that fails at once elsewhere. -/
theorem iloadL {dst : Option Tmp} {ty t : TypeId} {x : Operand} {pos : String} {after : Array Edge} {b n c : Nat} {f w h : Int} {A : Option Addr} (T : RowType P t 4) (k : IAt W b f w h A n c) (hx : a.eval x = .pointer (some ⟨b, 0, none⟩))
    (H : wpList P ops Q rest (a.put dst (.agg #[.int .i64 f, .int .i64 w, .int .i64 h, .slice A n c])) W) : wpList P ops Q ({ dst := dst, op := .load t x, type := ty, pos := pos, after := after, guard := none } :: rest) a W :=
  wpList_iload rfl t x rfl T k hx H

theorem storeL {dst : Option Tmp} {ty t : TypeId} {x y : Operand} {pos : String} {after : Array Edge}
    (H : wpList P ops Q ({ dst := dst, op := .store t x y, type := ty, pos := pos, after := after, guard := none } :: rest) a W) : wpList P ops Q ({ dst := dst, op := .store t x y, type := ty, pos := pos, after := after, guard := none } :: rest) a W := H
end

set_option maxRecDepth 100000 in
set_option maxHeartbeats 2000000 in
theorem rreducec_b (f wd ht : Int) (A : Option Addr) (n c : Nat) (l : List Int) (w : World) (R : Rd w w.heap.size .u8 A n l) (hn : n ≤ 140737488351232) (hno : ¬ ((Im.mk f wd ht l).ok ∧ ¬ (wd = 1 ∧ ht = 1))) :
    Calls Try.prog 15 #[.agg #[.int .i64 f, .int .i64 wd, .int .i64 ht, .slice A n c]] w (GivesIO w 5 (Im.mk f wd ht l).red) := by
  rw [red_no hno]
  have D := IBox.made w f wd ht A n c 25
  have b0 := box_below w #[.int .i64 f, .int .i64 wd, .int .i64 ht, .slice A n c] 25
  have z1 : (w.alloc (.cells #[.int .i64 f, .int .i64 wd, .int .i64 ht, .slice A n c] 25)).heap.size = w.heap.size + 1 := by simp
  have E2 := IBox.made (w.alloc (.cells #[.int .i64 f, .int .i64 wd, .int .i64 ht, .slice A n c] 25)) 0 0 0 none 0 0 25
  have b2 := box_below (w.alloc (.cells #[.int .i64 f, .int .i64 wd, .int .i64 ht, .slice A n c] 25)) #[.int .i64 0, .int .i64 0, .int .i64 0, .slice none 0 0] 25
  replace D := (D.on b2).1
  have BB := bon b0 b2
  rw [z1] at E2
  have K0 := R.on BB
  have cv := fun W => rivalid_b f wd ht A n c l W R.len
  have CC := Lib.hid (fun W R => riclone_b f wd ht A n c l W R hn)
  unfold GivesIO at CC ⊢
  simp only at CC
  clear b0 b2 z1 R
  obtain ⟨z, hz⟩ : ∃ z, decide (Im.mk f wd ht l).ok = z := ⟨_, rfl⟩
  have hcase : z = false ∨ (z = true ∧ wd = 1 ∧ ht = 1) := by
    by_cases hok : (Im.mk f wd ht l).ok
    · refine .inr ⟨by rw [← hz]; exact decide_eq_true hok, ?_⟩
      exact Classical.byContradiction fun k => hno ⟨hok, k⟩
    · exact .inl (by rw [← hz]; exact decide_eq_false hok)
  simp only [hz] at cv
  clear hz hno
  have CV := Lib.hid cv
  clear cv
  obtain ⟨j0, j1, j2, j3⟩ := id D
  rcases hcase with rfl | ⟨rfl, rfl, rfl⟩
  all_goals
    go_enter Try.func15, Try.ntmps15
    go_wp2_with (first
      | ((with_reducible refine iloadL imgT D ?_ ?_); focus rfl)
      | (go_at_call 20; (with_reducible refine (CV.out _).mono ?_); rintro _ V1 ⟨rfl, B⟩; clear j0 j1 j2 j3; replace D := D.on B; replace E2 := E2.on B; replace K0 := K0.on B; replace BB := bon BB B; clear B; obtain ⟨j0, j1, j2, j3⟩ := id D)
      | (go_at_call 36; (with_reducible refine (CC.out _ K0).mono ?_); rintro _ V2 ⟨A2, n2, c2, rfl, own2, B⟩; clear j0 j1 j2 j3; have hlt := E2.lt; have hsz := BB.size; replace D := D.on B; replace E2 := E2.on B; replace BB := bon BB B; clear B K0; obtain ⟨j0, j1, j2, j3⟩ := id D)
      | ((with_reducible refine storeL ?_); refine wpList_iset rfl _ _ _ rfl rfl rfl E2 (by kernel_rfl) ?_; intro V6 B6 E6 hg hz6))
    obtain ⟨⟨q0, q1, q2, q3⟩, _⟩ := E6
    have O6 := (own2.past hg hlt).since hsz
    first
      | exact bodyPost_ret (v := .agg #[.int .i64 f, .int .i64 wd, .int .i64 ht, .slice A2 n2 c2]) (by simp [results, Try.results15, go_sem, *]) rfl ⟨A2, n2, c2, rfl, O6, BB.trans (B6.mono (by omega))⟩
      | exact bodyPost_ret (v := .agg #[.int .i64 f, .int .i64 1, .int .i64 1, .slice A2 n2 c2]) (by simp [results, Try.results15, go_sem, *]) rfl ⟨A2, n2, c2, rfl, O6, BB.trans (B6.mono (by omega))⟩

theorem rreduce_b (f wd ht : Int) (A : Option Addr) (n c : Nat) (l : List Int) (w : World) (R : Rd w w.heap.size .u8 A n l) (hc : n ≤ c) (hn : n ≤ 140737488351232) :
    Calls Try.prog 15 #[.agg #[.int .i64 f, .int .i64 wd, .int .i64 ht, .slice A n c]] w (GivesIO w 5 (Im.mk f wd ht l).red) := by
  by_cases h : (Im.mk f wd ht l).ok ∧ ¬ (wd = 1 ∧ ht = 1)
  · by_cases h1 : wd = 1
    · exact rreduceb_b f wd ht A n c l w R hc h.1 h1 (fun k => h.2 ⟨h1, k⟩)
    · exact rreducea_b f wd ht A n c l w R hc h.1 h1
  · exact rreducec_b f wd ht A n c l w R hn h

/-- A slice of images that lies apart from block b. -/
def Apart (A : Option Addr) (ts : List Tx) (b : Nat) : Prop := (∀ r, A = some r → r.block ≠ b) ∧ ∀ t ∈ ts, ∀ g, t.A = some g → g.block ≠ b

theorem OwnI.apart {w w' : World} {base n c b : Nat} {e : TypeId} {A : Option Addr} {ts : List Tx} (h : OwnI w base e A n c ts) (hg : w.grownBy w' (some b)) (k : Apart A ts b) : OwnI w' base e A n c ts := by
  refine ⟨h.1.kept hg ?_, Nat.le_trans h.2.1 hg.size, h.2.2.1, fun t ht => (h.2.2.2.1 t ht).past hg fun g hA e => ?_, h.2.2.2.2⟩
  · cases A with
    | none => exact .inr (fun e => by cases e)
    | some r => exact .inr (fun e => k.1 r rfl (by simpa [Value.ownBlock] using e))
  · have := k.2 t ht g hA
    simp at e
    omega

theorem Apart.app {A A' : Option Addr} {ts : List Tx} {b n c n' c' s : Nat} {x : Tx} (k : Apart A ts b) (h : (Value.slice A' n' c').ownBlock = (Value.slice A n c).ownBlock ∨ (Value.slice A' n' c').ownBlock = some s) (hs : b < s) (hx : ∀ g, x.A = some g → g.block ≠ b) : Apart A' (ts ++ [x]) b := by
  refine ⟨fun r hr => ?_, fun t ht g hg => ?_⟩
  · subst hr
    rcases h with h | h
    · cases A with
      | none => cases h
      | some q =>
        have := k.1 q rfl
        simp [Value.ownBlock] at h
        omega
    · simp [Value.ownBlock] at h
      omega
  · rcases List.mem_append.1 ht with ht | ht
    · exact k.2 t ht g hg
    · rw [List.mem_singleton] at ht
      subst ht
      exact hx g hg

theorem XBox.past' {W V : World} {b : Nat} {v : Value} {row : Option Nat} (h : XBox W b v) (hg : W.grownBy V row) (hne : some b ≠ row) : XBox V b v :=
  ⟨hg.cell h.1 hne, (World.frozen?_of_block (a := ⟨b, 0, none⟩) (hg.block b h.lt hne)).trans h.2⟩

section
variable {P : Program} {ops : Array Oper} {rest : List Oper} {o : Oper} {a : Act} {Q : Exit → Act → World → Prop}

theorem run_appI2 (W : World) {t ty e : TypeId} (E : ElemI P t e) {base n c : Nat} {A : Option Addr} {ts : List Tx} (own : OwnI W base e A n c ts) {x : Tx} (F : TFar W base x) (hF : ∀ g, x.A = some g → ∀ r, A = some r → g.block ≠ r.block)
    {b d : Nat} (R : TAt W b 0 x) (h63 : n + 1 ≤ maxLen) (hb : (n + 1) * 48 ≤ 140737488355328) :
    ∃ A' c' W1, (Builtin.append_ #[t, t] ty #[.slice A n c, .slice (some ⟨b, 0, none⟩) 1 d]).run P W = .ok (.slice A' (n + 1) c') W1 ∧ OwnI W1 base e A' (n + 1) c' (ts ++ [x]) ∧ W.grownBy W1 (Value.slice A n c).ownBlock ∧
      ((Value.slice A' (n + 1) c').ownBlock = (Value.slice A n c).ownBlock ∨ (Value.slice A' (n + 1) c').ownBlock = some W.heap.size) := by
  obtain ⟨ht, i, z, hi, hz, hzs, hsize, hby⟩ := E
  obtain ⟨v', w', hrun, h2, h3, _, h5⟩ := run_append_own_at (P := P) W base t ty e i z 4 48 ht hi hz hsize hby hzs (by decide) _ n _ own.1 ⟨b, 0, none⟩ 1 d (txv x) rfl
    (fun j u hu => by
      rw [add_plain']
      match j, hu with
      | 0, hu => simp [txv] at hu; subst hu; exact R.1
      | 1, hu => simp [txv] at hu; subst hu; exact R.2.1
      | 2, hu => simp [txv] at hu; subst hu; exact R.2.2.1
      | 3, hu => simp [txv] at hu; subst hu; exact R.2.2.2) (fun u hu => by simp [txv] at hu; rcases hu with rfl | rfl | rfl | rfl <;> rfl) h63 hb own.2.1
  obtain ⟨A', c', rfl⟩ := form_of_own h2
  have hlt := own.1.lt
  have hrow : ∀ t, t ∈ ts ++ [x] → ∀ g, t.A = some g → some g.block ≠ (Value.slice A n c).ownBlock := fun t ht g hA e => by
    cases A with
    | none => cases e
    | some r =>
      simp only [Value.ownBlock, Option.some.injEq] at e
      rcases List.mem_append.1 ht with ht | ht
      · exact own.2.2.2.2 t ht g hA r rfl e
      · rw [List.mem_singleton] at ht
        subst ht
        exact hF g hA r rfl e
  have hfar : ∀ t, t ∈ ts ++ [x] → TFar W base t := fun t ht => by
    rcases List.mem_append.1 ht with ht | ht
    · exact own.2.2.2.1 t ht
    · rw [List.mem_singleton] at ht
      subst ht
      exact F
  refine ⟨A', c', w', hrun, ⟨by simpa [txv] using h2, Nat.le_trans own.2.1 h3.size, by simp [own.2.2.1], fun t ht => (hfar t ht).past h3 (hrow t ht), fun t ht g hA r hr => ?_⟩, h3, h5⟩
  subst hr
  intro e
  have hg := ((hfar t ht).2 g hA).2
  simp only [Value.ownBlock] at h5
  rcases h5 with h5 | h5
  · exact hrow t ht g hA (by rw [e]; simpa [Value.ownBlock] using h5)
  · simp at h5
    omega

/-- 'append(s, x)' of one image: what else may have changed. -/
theorem wpList_app1I2 (W : World) (hgd : o.guard = none) (s x : Operand) (t : TypeId) (ho : o.op = .call { callee := .builtin .append, args := #[s, x], argTypes := #[t, t] })
    {e : TypeId} (E : ElemI P t e) {base n c : Nat} {A : Option Addr} {ts : List Tx} (own : OwnI W base e A n c ts) (hs : a.eval s = .slice A n c)
    {f wd hgt : Int} {l : List Int} {A1 : Option Addr} {n1 c1 : Nat} (F : TFar W base ⟨⟨f, wd, hgt, l⟩, A1, n1, c1⟩) (hF : ∀ g, A1 = some g → ∀ r, A = some r → g.block ≠ r.block) (hx : a.eval x = .slice (some ⟨W.heap.size, 0, none⟩) 1 1) (h63 : n + 1 ≤ maxLen) (hb : (n + 1) * 48 ≤ 140737488355328)
    (h : ∀ A' c' W1, OwnI W1 base e A' (n + 1) c' (ts ++ [⟨⟨f, wd, hgt, l⟩, A1, n1, c1⟩]) → (W.alloc (.cells #[.int .i64 f, .int .i64 wd, .int .i64 hgt, .slice A1 n1 c1] e)).grownBy W1 (Value.slice A n c).ownBlock →
      ((Value.slice A' (n + 1) c').ownBlock = (Value.slice A n c).ownBlock ∨ (Value.slice A' (n + 1) c').ownBlock = some (W.alloc (.cells #[.int .i64 f, .int .i64 wd, .int .i64 hgt, .slice A1 n1 c1] e)).heap.size) →
      wpList P ops Q rest (a.put o.dst (.slice A' (n + 1) c')) W1) : wpList P ops Q (o :: rest) a (W.alloc (.cells #[.int .i64 f, .int .i64 wd, .int .i64 hgt, .slice A1 n1 c1] e)) := by
  have BW : Below W.heap.size W (W.alloc (.cells #[.int .i64 f, .int .i64 wd, .int .i64 hgt, .slice A1 n1 c1] e)) := (Below.refl _ _).alloc (Nat.le_refl _) _
  refine wpList_plain hgd fun K hK => ?_
  obtain ⟨A', c', W1, hrun, h2, h3, h4⟩ := run_appI2 (P := P) (ty := o.type) (W.alloc (.cells #[.int .i64 f, .int .i64 wd, .int .i64 hgt, .slice A1 n1 c1] e)) E (own.on BW) (F.on BW) hF (b := W.heap.size) (d := 1) ⟨by simp, by simp, by simp, by simp⟩ h63 hb
  unfold Oper.wp execOp
  simp only [ho, resolve, invoke, builtin, Sem.run_bind, Sem.run_pure, Result.andThen_ok, List.map_toArray, List.map_cons, List.map_nil, hs, hx]
  rw [hrun]
  exact hK _ _ (h _ _ _ h2 h3 h4)
end

set_option maxRecDepth 100000 in
set_option maxHeartbeats 16000000 in
theorem rchain_b (f wd ht : Int) (A : Option Addr) (n c : Nat) (l : List Int) (w : World) (R : Rd w w.heap.size .u8 A n l) (hn : n ≤ 140737488351232) :
    Calls Try.prog 11 #[.agg #[.int .i64 f, .int .i64 wd, .int .i64 ht, .slice A n c]] w (GivesT w (Im.mk f wd ht l)) := by
  have D0 := IBox.made w f wd ht A n c 25
  have b0 := box_below w #[.int .i64 f, .int .i64 wd, .int .i64 ht, .slice A n c] 25
  have z1 : (w.alloc (.cells #[.int .i64 f, .int .i64 wd, .int .i64 ht, .slice A n c] 25)).heap.size = w.heap.size + 1 := by simp
  have X2 := XBox.made (w.alloc (.cells #[.int .i64 f, .int .i64 wd, .int .i64 ht, .slice A n c] 25)) (.slice none 0 0) 29
  have b2 := box_below (w.alloc (.cells #[.int .i64 f, .int .i64 wd, .int .i64 ht, .slice A n c] 25)) #[.slice none 0 0] 29
  replace D0 := (D0.on b2).1
  have BB := bon b0 b2
  rw [z1] at X2
  have K0 := R.on BB
  have cv := fun W => rivalid_b f wd ht A n c l W R.len
  have cl := fun W => rlevels_q wd ht W
  have CC := Lib.hid (fun W R => riclone_b f wd ht A n c l W R hn)
  unfold GivesIO at CC
  unfold GivesT
  simp only at CC
  clear b0 b2 z1 R
  by_cases hok : (Im.mk f wd ht l).ok
  · rw [decide_eq_true hok] at cv
    rw [if_pos hok, if_pos hok]
    have hp := nlv_pos hok.2.1 hok.2.2.1
    have h7 := nlv_le wd ht
    have HC := Lib.hid (fun k => chn_ok hok k)
    have HS : Hid (∀ k, chn (Im.mk f wd ht l) (k + 1) = (chn (Im.mk f wd ht l) k).red) := Lib.hid fun k => rfl
    have H0 : Hid (chn (Im.mk f wd ht l) 0 = Im.mk f wd ht l) := Lib.hid rfl
    have HE : Hid (chain (Im.mk f wd ht l) = (List.range (nlv wd ht)).map (chn (Im.mk f wd ht l))) := Lib.hid rfl
    obtain ⟨M, hM⟩ : ∃ M, chn (Im.mk f wd ht l) = M := ⟨_, rfl⟩
    rw [hM] at HC HS H0 HE
    obtain ⟨C, hC⟩ : ∃ C, chain (Im.mk f wd ht l) = C := ⟨_, rfl⟩
    rw [hC] at HE ⊢
    obtain ⟨L, hL⟩ : ∃ L, nlv wd ht = L := ⟨_, rfl⟩
    rw [hL] at hp h7 HE
    simp only [hL] at cl
    obtain ⟨K, rfl⟩ : ∃ K, L = K + 1 := ⟨L - 1, by omega⟩
    have CV := Lib.hid cv
    have CL := Lib.hid cl
    clear cv cl hM hC hL hok hn
    have hx2w : w.heap.size + 1 < w.heap.size + 2 := by omega
    obtain ⟨j0, j1, j2, j3⟩ := id D0
    go_enter Try.func11, Try.ntmps11
    go_wp2_with (first
      | (refine wpList_iload rfl _ _ rfl imgT D0 rfl ?_)
      | (go_at_call 20; (with_reducible refine (CV.out _).mono ?_); rintro _ V1 ⟨rfl, B⟩; clear j0 j1 j2 j3; replace D0 := D0.on B; replace X2 := X2.on B; replace K0 := K0.on B; replace BB := bon BB B; clear B; obtain ⟨j0, j1, j2, j3⟩ := id D0)
      | (go_at_call 36; (with_reducible refine (CC.out _ K0).mono ?_); rintro _ V2 ⟨A2, n2, c2, rfl, own2, B⟩; clear j0 j1 j2 j3; have hx2 := X2.lt; have hxb := BB.size; have hb2 := B.size; replace D0 := D0.on B; replace X2 := X2.on B; replace BB := bon BB B; have F2 := TFar.of (f := f) (wd := wd) (ht := ht) own2; have O2 := OwnI.made1 (e := 25) F2 hb2; have bm := box_below V2 #[.int .i64 f, .int .i64 wd, .int .i64 ht, .slice A2 n2 c2] 25; have zm : (V2.alloc (.cells #[.int .i64 f, .int .i64 wd, .int .i64 ht, .slice A2 n2 c2] 25)).heap.size = V2.heap.size + 1 := (by simp); replace D0 := D0.on bm; replace X2 := X2.on bm; replace BB := bon BB bm; clear B K0; obtain ⟨j0, j1, j2, j3⟩ := id D0))
    have bt := box_below (V2.alloc (.cells #[.int .i64 f, .int .i64 wd, .int .i64 ht, .slice A2 n2 c2] 25)) #[.slice (some ⟨V2.heap.size, 0, none⟩) 1 1] 29
    have X4 := XBox.made (V2.alloc (.cells #[.int .i64 f, .int .i64 wd, .int .i64 ht, .slice A2 n2 c2] 25)) (.slice (some ⟨V2.heap.size, 0, none⟩) 1 1) 29
    rw [zm] at X4
    have AP : Apart (some ⟨V2.heap.size, 0, none⟩) [⟨⟨f, wd, ht, l⟩, A2, n2, c2⟩] (V2.heap.size + 1) := by
      refine ⟨fun r hr => ?_, fun t ht' g hg => ?_⟩
      · cases hr
        simp only
        omega
      · rw [List.mem_singleton] at ht'
        subst ht'
        have := (F2.2 g hg).2
        omega
    replace O2 := O2.on bt
    replace D0 := D0.on bt
    replace X2 := X2.on bt
    replace BB := bon BB bt
    obtain ⟨bT, hbT⟩ : ∃ b, V2.heap.size + 1 = b := ⟨_, rfl⟩
    rw [hbT] at X4 AP ⊢
    have hx1 : w.heap.size < V1.heap.size := by omega
    have hx2t : w.heap.size + 1 < bT := by omega
    have hx1t : w.heap.size < bT := by omega
    have hxbt : w.heap.size ≤ bT := by omega
    have D := D0
    clear j0 j1 j2 j3 F2 own2 bm hb2 D0 bt hbT zm CV CC hx2w
    have OH := Lib.hid O2
    clear O2
    go_simp
    go_loopw [5] (fun i wr => ∃ (Y d : Nat) (A9 : Option Addr) (ts : List Tx), Y ≤ K ∧ i = .int .i64 ((Y : Int) + 1) ∧ OwnI wr V1.heap.size 25 A9 (Y + 1) d ts ∧ ts.map Tx.m = (List.range (Y + 1)).map M ∧ Apart A9 ts bT ∧ XBox wr bT (.slice A9 (Y + 1) d) ∧ XBox wr (w.heap.size + 1) (.slice none 0 0) ∧ IAt wr w.heap.size f wd ht A n c ∧ Below w.heap.size w wr) (fun i _ => K + 1 - (intOf i).toNat)
    case atStart => exact ⟨0, _, _, _, by omega, rfl, OH.out, by simp [H0.out], AP, X4, X2, D, BB⟩
    case round =>
      clear OH BB X2 D X4 AP
      obtain ⟨Y, d, A9, ts, hY, rfl, own, hts, AP, X4, X2, D, BB⟩ := hrel
      have OWN := Lib.hid own
      clear own
      obtain ⟨j0, j1, j2, j3⟩ := id D
      by_cases hYK : Y < K
      · have hc1 : (Y : Int) + 1 < ((K + 1 : Nat) : Int) := by omega
        have gj : IntKind.i64.wrap ((Y : Int) + 1 - 1) = Y := by rw [show (Y : Int) + 1 - 1 = Y by omega]; exact IntWalk.i64_in _ (by omega)
        have gj2 : IntKind.i64.wrap (Y : Int) = Y := IntWalk.i64_in _ (by omega)
        obtain ⟨b, off, t, hA, hb, TA, TR, ht'⟩ := OWN.out.rd.at_ (j := Y) (by omega)
        subst hA
        have hmt : t.m = M Y := by
          have h1 : (ts.map Tx.m)[Y]? = some t.m := by rw [List.getElem?_map, ht']; rfl
          rw [hts, List.getElem?_map, List.getElem?_range (by omega)] at h1
          injection h1 with h1
          exact h1.symm
        have hnt : t.n ≤ 140737488351232 := by
          have h1 := ok_len (HC.out Y)
          rw [← hmt, TR.1.len] at h1
          omega
        have hred : t.m.red = M (Y + 1) := by rw [hmt, HS.out]
        have CR := Lib.hid (fun W R => rreduce_b t.m.f t.m.w t.m.h t.A t.n t.c t.m.l W R TR.2 hnt)
        rw [show Im.mk t.m.f t.m.w t.m.h t.m.l = t.m from rfl, hred] at CR
        unfold GivesIO at CR
        have HTS := Lib.hid hts
        have TRH := Lib.hid TR.1
        have hYd : Y < Y + 1 := by omega
        have hYi : ¬ ((Y : Int) + 1 ≤ (Y : Int)) := by omega
        clear hts hmt hnt hred ht' TR
        · go_wp2_with (go_at_call 19; (with_reducible refine (CL.out _).mono ?_); rintro _ _ ⟨rfl, rfl⟩)
          clear j0 j1 j2 j3
          · refine wp_region_treeC (fun _ => True) (.read 0 (.read 2 (.read 4 (.read 5 (.fork2 1 (.fork1 3 (.read 6 (.fork1 7 (.fork1 8 (.fork1 9 (.fork1 10 (.read 11 (.fork1 12 .nil)))))))) 3 (.read 6 (.fork2 1 (.fork1 7 (.fork1 8 (.fork1 9 (.fork1 10 (.read 11 (.fork1 12 .nil)))))) 7 (.fork2 1 (.fork1 8 (.fork1 9 (.fork1 10 (.read 11 (.fork1 12 .nil))))) 8 (.fork2 1 (.fork1 9 (.fork1 10 (.read 11 (.fork1 12 .nil)))) 9 (.fork1 1 (.fork1 10 (.read 11 (.fork1 12 .nil))))))))))))) (by kernel_rfl) (by kernel_rfl) (fun _ _ => trivial) ?_
            intro U0 B0
            replace TA := TA.on B0
            have TRH0 := Lib.hid (TRH.out.on B0)
            clear TRH
            have TRH := TRH0
            have OW0 := Lib.hid (OWN.out.on B0)
            clear OWN
            have OWN := OW0
            replace X4 := X4.on B0
            replace X2 := X2.on B0
            replace D := D.on B0
            replace BB := bon BB B0
            clear B0
            refine tree_read rfl ?_
            refine wpQuiet_step (fun K hK => ?_)
            rw [if_pos (by rfl)]
            refine quiet_val (.pointer (some ⟨bT, 0, none⟩)) (fun W hW => by simp [execOp, go_sem]) ?_
            go_simp
            refine hK _ ?_
            clear hK K
            refine wpQuiet_nil ?_
            refine tree_read rfl ?_
            refine wpQuiet_step (fun K hK => ?_)
            rw [if_pos (by rfl)]
            refine quiet_val (.pointer (some ⟨bT, 0, none⟩)) (fun W hW => by simp [execOp, go_sem]) ?_
            go_simp
            refine hK _ ?_
            clear hK K
            refine wpQuiet_nil ?_
            refine tree_read rfl ?_
            refine wpQuiet_step (fun K hK => ?_)
            rw [if_pos (by rfl)]
            first | refine quiet_move _ rfl ?_ | refine quiet_assign _ rfl ?_
            go_simp
            refine hK _ ?_
            clear hK K
            refine wpQuiet_nil ?_
            refine tree_read rfl ?_
            refine wpQuiet_step (fun K hK => ?_)
            rw [if_pos (by rfl)]
            refine quiet_val (.int .i64 Y) (fun W hW => by simp [execOp, go_sem, gj2]) ?_
            go_simp
            refine hK _ ?_
            clear hK K
            refine wpQuiet_nil ?_
            refine tree_two rfl rfl ?_ ?_
            · have x1 := X4.1
              go_wp2_with fail
              clear x1
              refine ⟨trivial, ?_⟩
              refine tree_one rfl ?_
              have x3 := X4.1
              go_wp2_with fail
              clear x3
              refine ⟨trivial, ?_⟩
              refine tree_read rfl ?_
              refine wpQuiet_step (fun K hK => ?_)
              rw [if_pos (by rfl)]
              refine quiet_val (.pointer (some ⟨b, off + Y * 4, none⟩)) (fun W hW => by simp [execOp, go_sem, hYi]) ?_
              go_simp
              refine hK _ ?_
              clear hK K
              refine wpQuiet_nil ?_
              refine tree_one rfl ?_
              go_wp2_with (refine wpList_tload rfl _ _ rfl imgType TA rfl ?_)
              refine ⟨trivial, ?_⟩
              refine tree_one rfl ?_
              go_wp2_with (go_at_call 15; (with_reducible refine (CR.out _ TRH.out).mono ?_); rintro _ U1 ⟨A7, n7, c7, rfl, own7, B⟩)
              have TRH8 := TRH
              clear TRH
              have O7 := OWN.out.on B
              have hXlt := X4.lt
              replace X4 := X4.on B
              replace X2 := X2.on B
              replace D := D.on B
              replace BB := bon BB B
              clear B
              refine ⟨trivial, ?_⟩
              refine tree_one rfl ?_
              go_wp2_with fail
              refine ⟨trivial, ?_⟩
              have F7 := TFar.of (f := (M (Y + 1)).f) (wd := (M (Y + 1)).w) (ht := (M (Y + 1)).h) own7
              have hbl := OWN.out.base_le
              have hbb := OWN.out.1.lt
              refine tree_one rfl ?_
              go_wp2_with (refine wpList_app1I2 _ rfl _ _ _ rfl elI O7 rfl (F7.since hbl) (fun g hg r hr => by subst hg; cases hr; have h1 := (own7.1.lt _ rfl).1; have h2 := (hbb _ rfl).2; simp only at h1 h2 ⊢; omega) rfl (by simp only [maxLen]; omega) (by omega) ?_; intro A8 c8 U2 own8 g8 n8)
              refine ⟨trivial, ?_⟩
              have bU := box_below U1 #[.int .i64 (M (Y + 1)).f, .int .i64 (M (Y + 1)).w, .int .i64 (M (Y + 1)).h, .slice A7 n7 c7] 25
              have hapA : some bT ≠ (Value.slice (some ⟨b, off, none⟩) (Y + 1) d).ownBlock := fun e => AP.1 _ rfl (by simpa [Value.ownBlock] using e.symm)
              have X4b := (X4.on bU).past' g8 hapA
              have Bb : Below V1.heap.size (U1.alloc (.cells #[.int .i64 (M (Y + 1)).f, .int .i64 (M (Y + 1)).w, .int .i64 (M (Y + 1)).h, .slice A7 n7 c7] 25)) U2 := below_grown (Nat.le_trans O7.base_le bU.size) g8 (fun k hk => (O7.1.lt k hk).1)
              have AP8 : Apart A8 (ts ++ [⟨M (Y + 1), A7, n7, c7⟩]) bT := AP.app n8 (by have := X4.lt; have := bU.size; omega) (fun g hg => by subst hg; have h1 := (own7.1.lt _ rfl).1; (try simp only at h1 ⊢); omega)
              replace X2 := (X2.on bU).below hx2 Bb
              replace D := (D.on bU).below hx1 Bb
              replace BB := (bon BB bU).trans (Bb.mono hxb)
              clear F7 hbb O7 own7 bU g8 n8
              refine tree_read rfl ?_
              refine wpQuiet_step (fun K hK => ?_)
              rw [if_pos (by rfl)]
              refine quiet_val (.pointer (some ⟨bT, 0, none⟩)) (fun W hW => by simp [execOp, go_sem]) ?_
              go_simp
              refine hK _ ?_
              clear hK K
              refine wpQuiet_nil ?_
              refine tree_one rfl ?_
              obtain ⟨x0, xf⟩ := X4b
              go_wp2_with fail
              refine ⟨trivial, ?_⟩
              have hg2 := grownBy_setCell U2 bT 0 (.slice A8 (Y + 1 + 1) c8)
              have O9 := own8.apart hg2 AP8
              have X9 : XBox (U2.setCell ⟨bT, 0, none⟩ (.slice A8 (Y + 1 + 1) c8)) bT (.slice A8 (Y + 1 + 1) c8) := ⟨by simp [go_sem, x0], by simp [go_sem, xf]⟩
              have B9 : Below bT U2 (U2.setCell ⟨bT, 0, none⟩ (.slice A8 (Y + 1 + 1) c8)) := (Below.refl bT U2).setCell (p := ⟨bT, 0, none⟩) (Nat.le_refl bT) _
              replace X2 := X2.below hx2t B9
              replace D := D.below hx1t B9
              replace BB := BB.trans (B9.mono hxbt)
              clear x0 xf
              refine tree_nil ?_
              go_wp2
              go_roundw
              case rel => exact ⟨Y + 1, c8, A8, _, by omega, by go_num, O9, by rw [List.map_append, HTS.out, List.range_succ (n := Y + 1), List.map_append]; rfl, AP8, X9, X2, D, BB⟩
              case measure => simp [intOf]; omega
            · have x3 := X4.1
              go_wp2_with fail
              clear x3
              refine ⟨trivial, ?_⟩
              refine tree_read rfl ?_
              refine wpQuiet_step (fun K hK => ?_)
              rw [if_pos (by rfl)]
              refine quiet_val (.pointer (some ⟨b, off + Y * 4, none⟩)) (fun W hW => by simp [execOp, go_sem, hYi]) ?_
              go_simp
              refine hK _ ?_
              clear hK K
              refine wpQuiet_nil ?_
              refine tree_two rfl rfl ?_ ?_
              · have x1 := X4.1
                go_wp2_with fail
                clear x1
                refine ⟨trivial, ?_⟩
                refine tree_one rfl ?_
                go_wp2_with (refine wpList_tload rfl _ _ rfl imgType TA rfl ?_)
                refine ⟨trivial, ?_⟩
                refine tree_one rfl ?_
                go_wp2_with (go_at_call 15; (with_reducible refine (CR.out _ TRH.out).mono ?_); rintro _ U1 ⟨A7, n7, c7, rfl, own7, B⟩)
                have TRH8 := TRH
                clear TRH
                have O7 := OWN.out.on B
                have hXlt := X4.lt
                replace X4 := X4.on B
                replace X2 := X2.on B
                replace D := D.on B
                replace BB := bon BB B
                clear B
                refine ⟨trivial, ?_⟩
                refine tree_one rfl ?_
                go_wp2_with fail
                refine ⟨trivial, ?_⟩
                have F7 := TFar.of (f := (M (Y + 1)).f) (wd := (M (Y + 1)).w) (ht := (M (Y + 1)).h) own7
                have hbl := OWN.out.base_le
                have hbb := OWN.out.1.lt
                refine tree_one rfl ?_
                go_wp2_with (refine wpList_app1I2 _ rfl _ _ _ rfl elI O7 rfl (F7.since hbl) (fun g hg r hr => by subst hg; cases hr; have h1 := (own7.1.lt _ rfl).1; have h2 := (hbb _ rfl).2; simp only at h1 h2 ⊢; omega) rfl (by simp only [maxLen]; omega) (by omega) ?_; intro A8 c8 U2 own8 g8 n8)
                refine ⟨trivial, ?_⟩
                have bU := box_below U1 #[.int .i64 (M (Y + 1)).f, .int .i64 (M (Y + 1)).w, .int .i64 (M (Y + 1)).h, .slice A7 n7 c7] 25
                have hapA : some bT ≠ (Value.slice (some ⟨b, off, none⟩) (Y + 1) d).ownBlock := fun e => AP.1 _ rfl (by simpa [Value.ownBlock] using e.symm)
                have X4b := (X4.on bU).past' g8 hapA
                have Bb : Below V1.heap.size (U1.alloc (.cells #[.int .i64 (M (Y + 1)).f, .int .i64 (M (Y + 1)).w, .int .i64 (M (Y + 1)).h, .slice A7 n7 c7] 25)) U2 := below_grown (Nat.le_trans O7.base_le bU.size) g8 (fun k hk => (O7.1.lt k hk).1)
                have AP8 : Apart A8 (ts ++ [⟨M (Y + 1), A7, n7, c7⟩]) bT := AP.app n8 (by have := X4.lt; have := bU.size; omega) (fun g hg => by subst hg; have h1 := (own7.1.lt _ rfl).1; (try simp only at h1 ⊢); omega)
                replace X2 := (X2.on bU).below hx2 Bb
                replace D := (D.on bU).below hx1 Bb
                replace BB := (bon BB bU).trans (Bb.mono hxb)
                clear F7 hbb O7 own7 bU g8 n8
                refine tree_read rfl ?_
                refine wpQuiet_step (fun K hK => ?_)
                rw [if_pos (by rfl)]
                refine quiet_val (.pointer (some ⟨bT, 0, none⟩)) (fun W hW => by simp [execOp, go_sem]) ?_
                go_simp
                refine hK _ ?_
                clear hK K
                refine wpQuiet_nil ?_
                refine tree_one rfl ?_
                obtain ⟨x0, xf⟩ := X4b
                go_wp2_with fail
                refine ⟨trivial, ?_⟩
                have hg2 := grownBy_setCell U2 bT 0 (.slice A8 (Y + 1 + 1) c8)
                have O9 := own8.apart hg2 AP8
                have X9 : XBox (U2.setCell ⟨bT, 0, none⟩ (.slice A8 (Y + 1 + 1) c8)) bT (.slice A8 (Y + 1 + 1) c8) := ⟨by simp [go_sem, x0], by simp [go_sem, xf]⟩
                have B9 : Below bT U2 (U2.setCell ⟨bT, 0, none⟩ (.slice A8 (Y + 1 + 1) c8)) := (Below.refl bT U2).setCell (p := ⟨bT, 0, none⟩) (Nat.le_refl bT) _
                replace X2 := X2.below hx2t B9
                replace D := D.below hx1t B9
                replace BB := BB.trans (B9.mono hxbt)
                clear x0 xf
                refine tree_nil ?_
                go_wp2
                go_roundw
                case rel => exact ⟨Y + 1, c8, A8, _, by omega, by go_num, O9, by rw [List.map_append, HTS.out, List.range_succ (n := Y + 1), List.map_append]; rfl, AP8, X9, X2, D, BB⟩
                case measure => simp [intOf]; omega
              · go_wp2_with (refine wpList_tload rfl _ _ rfl imgType TA rfl ?_)
                refine ⟨trivial, ?_⟩
                refine tree_two rfl rfl ?_ ?_
                · have x1 := X4.1
                  go_wp2_with fail
                  clear x1
                  refine ⟨trivial, ?_⟩
                  refine tree_one rfl ?_
                  go_wp2_with (go_at_call 15; (with_reducible refine (CR.out _ TRH.out).mono ?_); rintro _ U1 ⟨A7, n7, c7, rfl, own7, B⟩)
                  have TRH8 := TRH
                  clear TRH
                  have O7 := OWN.out.on B
                  have hXlt := X4.lt
                  replace X4 := X4.on B
                  replace X2 := X2.on B
                  replace D := D.on B
                  replace BB := bon BB B
                  clear B
                  refine ⟨trivial, ?_⟩
                  refine tree_one rfl ?_
                  go_wp2_with fail
                  refine ⟨trivial, ?_⟩
                  have F7 := TFar.of (f := (M (Y + 1)).f) (wd := (M (Y + 1)).w) (ht := (M (Y + 1)).h) own7
                  have hbl := OWN.out.base_le
                  have hbb := OWN.out.1.lt
                  refine tree_one rfl ?_
                  go_wp2_with (refine wpList_app1I2 _ rfl _ _ _ rfl elI O7 rfl (F7.since hbl) (fun g hg r hr => by subst hg; cases hr; have h1 := (own7.1.lt _ rfl).1; have h2 := (hbb _ rfl).2; simp only at h1 h2 ⊢; omega) rfl (by simp only [maxLen]; omega) (by omega) ?_; intro A8 c8 U2 own8 g8 n8)
                  refine ⟨trivial, ?_⟩
                  have bU := box_below U1 #[.int .i64 (M (Y + 1)).f, .int .i64 (M (Y + 1)).w, .int .i64 (M (Y + 1)).h, .slice A7 n7 c7] 25
                  have hapA : some bT ≠ (Value.slice (some ⟨b, off, none⟩) (Y + 1) d).ownBlock := fun e => AP.1 _ rfl (by simpa [Value.ownBlock] using e.symm)
                  have X4b := (X4.on bU).past' g8 hapA
                  have Bb : Below V1.heap.size (U1.alloc (.cells #[.int .i64 (M (Y + 1)).f, .int .i64 (M (Y + 1)).w, .int .i64 (M (Y + 1)).h, .slice A7 n7 c7] 25)) U2 := below_grown (Nat.le_trans O7.base_le bU.size) g8 (fun k hk => (O7.1.lt k hk).1)
                  have AP8 : Apart A8 (ts ++ [⟨M (Y + 1), A7, n7, c7⟩]) bT := AP.app n8 (by have := X4.lt; have := bU.size; omega) (fun g hg => by subst hg; have h1 := (own7.1.lt _ rfl).1; (try simp only at h1 ⊢); omega)
                  replace X2 := (X2.on bU).below hx2 Bb
                  replace D := (D.on bU).below hx1 Bb
                  replace BB := (bon BB bU).trans (Bb.mono hxb)
                  clear F7 hbb O7 own7 bU g8 n8
                  refine tree_read rfl ?_
                  refine wpQuiet_step (fun K hK => ?_)
                  rw [if_pos (by rfl)]
                  refine quiet_val (.pointer (some ⟨bT, 0, none⟩)) (fun W hW => by simp [execOp, go_sem]) ?_
                  go_simp
                  refine hK _ ?_
                  clear hK K
                  refine wpQuiet_nil ?_
                  refine tree_one rfl ?_
                  obtain ⟨x0, xf⟩ := X4b
                  go_wp2_with fail
                  refine ⟨trivial, ?_⟩
                  have hg2 := grownBy_setCell U2 bT 0 (.slice A8 (Y + 1 + 1) c8)
                  have O9 := own8.apart hg2 AP8
                  have X9 : XBox (U2.setCell ⟨bT, 0, none⟩ (.slice A8 (Y + 1 + 1) c8)) bT (.slice A8 (Y + 1 + 1) c8) := ⟨by simp [go_sem, x0], by simp [go_sem, xf]⟩
                  have B9 : Below bT U2 (U2.setCell ⟨bT, 0, none⟩ (.slice A8 (Y + 1 + 1) c8)) := (Below.refl bT U2).setCell (p := ⟨bT, 0, none⟩) (Nat.le_refl bT) _
                  replace X2 := X2.below hx2t B9
                  replace D := D.below hx1t B9
                  replace BB := BB.trans (B9.mono hxbt)
                  clear x0 xf
                  refine tree_nil ?_
                  go_wp2
                  go_roundw
                  case rel => exact ⟨Y + 1, c8, A8, _, by omega, by go_num, O9, by rw [List.map_append, HTS.out, List.range_succ (n := Y + 1), List.map_append]; rfl, AP8, X9, X2, D, BB⟩
                  case measure => simp [intOf]; omega
                · go_wp2_with (go_at_call 15; (with_reducible refine (CR.out _ TRH.out).mono ?_); rintro _ U1 ⟨A7, n7, c7, rfl, own7, B⟩)
                  have TRH8 := TRH
                  clear TRH
                  have O7 := OWN.out.on B
                  have hXlt := X4.lt
                  replace X4 := X4.on B
                  replace X2 := X2.on B
                  replace D := D.on B
                  replace BB := bon BB B
                  clear B
                  refine ⟨trivial, ?_⟩
                  refine tree_two rfl rfl ?_ ?_
                  · have x1 := X4.1
                    go_wp2_with fail
                    clear x1
                    refine ⟨trivial, ?_⟩
                    refine tree_one rfl ?_
                    go_wp2_with fail
                    refine ⟨trivial, ?_⟩
                    have F7 := TFar.of (f := (M (Y + 1)).f) (wd := (M (Y + 1)).w) (ht := (M (Y + 1)).h) own7
                    have hbl := OWN.out.base_le
                    have hbb := OWN.out.1.lt
                    refine tree_one rfl ?_
                    go_wp2_with (refine wpList_app1I2 _ rfl _ _ _ rfl elI O7 rfl (F7.since hbl) (fun g hg r hr => by subst hg; cases hr; have h1 := (own7.1.lt _ rfl).1; have h2 := (hbb _ rfl).2; simp only at h1 h2 ⊢; omega) rfl (by simp only [maxLen]; omega) (by omega) ?_; intro A8 c8 U2 own8 g8 n8)
                    refine ⟨trivial, ?_⟩
                    have bU := box_below U1 #[.int .i64 (M (Y + 1)).f, .int .i64 (M (Y + 1)).w, .int .i64 (M (Y + 1)).h, .slice A7 n7 c7] 25
                    have hapA : some bT ≠ (Value.slice (some ⟨b, off, none⟩) (Y + 1) d).ownBlock := fun e => AP.1 _ rfl (by simpa [Value.ownBlock] using e.symm)
                    have X4b := (X4.on bU).past' g8 hapA
                    have Bb : Below V1.heap.size (U1.alloc (.cells #[.int .i64 (M (Y + 1)).f, .int .i64 (M (Y + 1)).w, .int .i64 (M (Y + 1)).h, .slice A7 n7 c7] 25)) U2 := below_grown (Nat.le_trans O7.base_le bU.size) g8 (fun k hk => (O7.1.lt k hk).1)
                    have AP8 : Apart A8 (ts ++ [⟨M (Y + 1), A7, n7, c7⟩]) bT := AP.app n8 (by have := X4.lt; have := bU.size; omega) (fun g hg => by subst hg; have h1 := (own7.1.lt _ rfl).1; (try simp only at h1 ⊢); omega)
                    replace X2 := (X2.on bU).below hx2 Bb
                    replace D := (D.on bU).below hx1 Bb
                    replace BB := (bon BB bU).trans (Bb.mono hxb)
                    clear F7 hbb O7 own7 bU g8 n8
                    refine tree_read rfl ?_
                    refine wpQuiet_step (fun K hK => ?_)
                    rw [if_pos (by rfl)]
                    refine quiet_val (.pointer (some ⟨bT, 0, none⟩)) (fun W hW => by simp [execOp, go_sem]) ?_
                    go_simp
                    refine hK _ ?_
                    clear hK K
                    refine wpQuiet_nil ?_
                    refine tree_one rfl ?_
                    obtain ⟨x0, xf⟩ := X4b
                    go_wp2_with fail
                    refine ⟨trivial, ?_⟩
                    have hg2 := grownBy_setCell U2 bT 0 (.slice A8 (Y + 1 + 1) c8)
                    have O9 := own8.apart hg2 AP8
                    have X9 : XBox (U2.setCell ⟨bT, 0, none⟩ (.slice A8 (Y + 1 + 1) c8)) bT (.slice A8 (Y + 1 + 1) c8) := ⟨by simp [go_sem, x0], by simp [go_sem, xf]⟩
                    have B9 : Below bT U2 (U2.setCell ⟨bT, 0, none⟩ (.slice A8 (Y + 1 + 1) c8)) := (Below.refl bT U2).setCell (p := ⟨bT, 0, none⟩) (Nat.le_refl bT) _
                    replace X2 := X2.below hx2t B9
                    replace D := D.below hx1t B9
                    replace BB := BB.trans (B9.mono hxbt)
                    clear x0 xf
                    refine tree_nil ?_
                    go_wp2
                    go_roundw
                    case rel => exact ⟨Y + 1, c8, A8, _, by omega, by go_num, O9, by rw [List.map_append, HTS.out, List.range_succ (n := Y + 1), List.map_append]; rfl, AP8, X9, X2, D, BB⟩
                    case measure => simp [intOf]; omega
                  · go_wp2_with fail
                    refine ⟨trivial, ?_⟩
                    refine tree_one rfl ?_
                    have x1 := cell_below (box_below U1 #[.int .i64 (M (Y + 1)).f, .int .i64 (M (Y + 1)).w, .int .i64 (M (Y + 1)).h, .slice A7 n7 c7] 25) X4.1
                    go_wp2_with fail
                    clear x1
                    refine ⟨trivial, ?_⟩
                    have F7 := TFar.of (f := (M (Y + 1)).f) (wd := (M (Y + 1)).w) (ht := (M (Y + 1)).h) own7
                    have hbl := OWN.out.base_le
                    have hbb := OWN.out.1.lt
                    refine tree_one rfl ?_
                    go_wp2_with (refine wpList_app1I2 _ rfl _ _ _ rfl elI O7 rfl (F7.since hbl) (fun g hg r hr => by subst hg; cases hr; have h1 := (own7.1.lt _ rfl).1; have h2 := (hbb _ rfl).2; simp only at h1 h2 ⊢; omega) rfl (by simp only [maxLen]; omega) (by omega) ?_; intro A8 c8 U2 own8 g8 n8)
                    refine ⟨trivial, ?_⟩
                    have bU := box_below U1 #[.int .i64 (M (Y + 1)).f, .int .i64 (M (Y + 1)).w, .int .i64 (M (Y + 1)).h, .slice A7 n7 c7] 25
                    have hapA : some bT ≠ (Value.slice (some ⟨b, off, none⟩) (Y + 1) d).ownBlock := fun e => AP.1 _ rfl (by simpa [Value.ownBlock] using e.symm)
                    have X4b := (X4.on bU).past' g8 hapA
                    have Bb : Below V1.heap.size (U1.alloc (.cells #[.int .i64 (M (Y + 1)).f, .int .i64 (M (Y + 1)).w, .int .i64 (M (Y + 1)).h, .slice A7 n7 c7] 25)) U2 := below_grown (Nat.le_trans O7.base_le bU.size) g8 (fun k hk => (O7.1.lt k hk).1)
                    have AP8 : Apart A8 (ts ++ [⟨M (Y + 1), A7, n7, c7⟩]) bT := AP.app n8 (by have := X4.lt; have := bU.size; omega) (fun g hg => by subst hg; have h1 := (own7.1.lt _ rfl).1; (try simp only at h1 ⊢); omega)
                    replace X2 := (X2.on bU).below hx2 Bb
                    replace D := (D.on bU).below hx1 Bb
                    replace BB := (bon BB bU).trans (Bb.mono hxb)
                    clear F7 hbb O7 own7 bU g8 n8
                    refine tree_read rfl ?_
                    refine wpQuiet_step (fun K hK => ?_)
                    rw [if_pos (by rfl)]
                    refine quiet_val (.pointer (some ⟨bT, 0, none⟩)) (fun W hW => by simp [execOp, go_sem]) ?_
                    go_simp
                    refine hK _ ?_
                    clear hK K
                    refine wpQuiet_nil ?_
                    refine tree_one rfl ?_
                    obtain ⟨x0, xf⟩ := X4b
                    go_wp2_with fail
                    refine ⟨trivial, ?_⟩
                    have hg2 := grownBy_setCell U2 bT 0 (.slice A8 (Y + 1 + 1) c8)
                    have O9 := own8.apart hg2 AP8
                    have X9 : XBox (U2.setCell ⟨bT, 0, none⟩ (.slice A8 (Y + 1 + 1) c8)) bT (.slice A8 (Y + 1 + 1) c8) := ⟨by simp [go_sem, x0], by simp [go_sem, xf]⟩
                    have B9 : Below bT U2 (U2.setCell ⟨bT, 0, none⟩ (.slice A8 (Y + 1 + 1) c8)) := (Below.refl bT U2).setCell (p := ⟨bT, 0, none⟩) (Nat.le_refl bT) _
                    replace X2 := X2.below hx2t B9
                    replace D := D.below hx1t B9
                    replace BB := BB.trans (B9.mono hxbt)
                    clear x0 xf
                    refine tree_nil ?_
                    go_wp2
                    go_roundw
                    case rel => exact ⟨Y + 1, c8, A8, _, by omega, by go_num, O9, by rw [List.map_append, HTS.out, List.range_succ (n := Y + 1), List.map_append]; rfl, AP8, X9, X2, D, BB⟩
                    case measure => simp [intOf]; omega
      · obtain rfl : Y = K := by omega
        have hc1 : ¬ ((Y : Int) + 1 < ((Y + 1 : Nat) : Int)) := by omega
        have x4 := X4.1
        go_wp2_with (first
          | (go_at_call 19; (with_reducible refine (CL.out _).mono ?_); rintro _ _ ⟨rfl, rfl⟩)
          | (refine wpList_txset rfl _ _ _ rfl rfl rfl X2 (by kernel_rfl) ?_; intro V6 X6 B6 hg))
        have O6 := OWN.out.past hg hx2
        obtain ⟨x6, _⟩ := X6
        exact bodyPost_ret (v := .tuple #[.agg #[.slice A9 (Y + 1) d], .int .i64 0]) (by simp [results, Try.results11, go_sem, *]) rfl ⟨A9, Y + 1, d, ts, rfl, O6.room, O6.rd, by rw [hts, HE.out], BB.trans (B6.mono (by omega))⟩
  · rw [decide_eq_false hok] at cv
    rw [if_neg hok, if_neg hok]
    have CV := Lib.hid cv
    clear cv cl hok CC K0 hn
    obtain ⟨j0, j1, j2, j3⟩ := id D0
    go_enter Try.func11, Try.ntmps11
    go_wp2_with (first
      | (refine wpList_iload rfl _ _ rfl imgT D0 rfl ?_)
      | (go_at_call 20; (with_reducible refine (CV.out _).mono ?_); rintro _ V1 ⟨rfl, B⟩; clear j0 j1 j2 j3; replace D0 := D0.on B; replace X2 := X2.on B; replace BB := bon BB B; clear B; obtain ⟨j0, j1, j2, j3⟩ := id D0)
      | (refine wpList_txset rfl _ _ _ rfl rfl rfl X2 (by kernel_rfl) ?_; intro V6 X6 B6 hg))
    obtain ⟨x6, _⟩ := X6
    exact bodyPost_ret (v := .tuple #[.agg #[.slice none 0 0], .int .i64 2]) (by simp [results, Try.results11, go_sem, *]) rfl ⟨none, 0, 0, [], rfl, Nat.le_refl _, RdI.nil _ _ _, rfl, BB.trans (B6.mono (by omega))⟩

end Go.Proofs.Ytcjlgfadjedgbaa
