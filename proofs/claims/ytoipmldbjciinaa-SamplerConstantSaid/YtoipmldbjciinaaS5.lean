/- Log2 and length of package sampler; the chapter's example. -/
import Derived.Test.YtoipmldbjciinaaS4
namespace Go.Proofs.Ytoipmldbjciinaa
open Go.RowKit Go.Sort
set_option linter.unusedVariables false

theorem blen_bdw (x : Int) (h0 : 0 ≤ x) (h : x ≤ 1099511627776) : 0 ≤ blen x ∧ blen x ≤ 41 := by
  by_cases hx : x = 0
  · subst hx; decide
  exact ⟨by have := (blen_rng (y := x) (by omega) h).1; omega, (blen_rng (y := x) (by omega) h).2.1⟩
theorem blen_32 (x : Int) (h : 4294967296 ≤ x) : blen x = 32 + blen (x / 4294967296) := blen_shift x 32 h

set_option maxRecDepth 100000 in
set_option maxHeartbeats 2000000 in
theorem lenw64_b (x : Int) (w : World) (h0 : 0 ≤ x) (h1 : x ≤ 1099511627776) :
    Calls Try.prog 45 #[.int .u64 x] w fun e w' => e = .returned (.int .i64 (blen x)) ∧ Below w.heap.size w w' := by
  go_enter Try.func45, Try.ntmps45
  go_wp2
  all_goals go_ret
  all_goals refine ⟨ret_int ?_, Below.refl _ _⟩
  all_goals rw [len8tab_get, blen_tab]
  · have s1 := blen_32 x (by assumption)
    have s2 := blen_8 (x / 4294967296) (by assumption)
    have bd := blen_bdw (x / 4294967296 / 256) (by omega) (by omega)
    rw [IntWalk.wrap64_in (blen (x / 4294967296 / 256)) (by omega), IntWalk.wrap64_in _ (by omega)]; omega
  · have s1 := blen_32 x (by assumption)
    have bd := blen_bdw (x / 4294967296) (by omega) (by omega)
    rw [IntWalk.wrap64_in (blen (x / 4294967296)) (by omega), IntWalk.wrap64_in _ (by omega)]; omega
  · have s1 := blen_16 x (by assumption)
    have s2 := blen_8 (x / 65536) (by assumption)
    have bd := blen_bdw (x / 65536 / 256) (by omega) (by omega)
    rw [IntWalk.wrap64_in (blen (x / 65536 / 256)) (by omega), IntWalk.wrap64_in _ (by omega)]; omega
  · have s1 := blen_16 x (by assumption)
    have bd := blen_bdw (x / 65536) (by omega) (by omega)
    rw [IntWalk.wrap64_in (blen (x / 65536)) (by omega), IntWalk.wrap64_in _ (by omega)]; omega
  · have s1 := blen_8 x (by assumption)
    have bd := blen_bdw (x / 256) (by omega) (by omega)
    rw [IntWalk.wrap64_in (blen (x / 256)) (by omega), IntWalk.wrap64_in _ (by omega)]; omega
  · have bd := blen_bdw x (by omega) (by omega)
    rw [IntWalk.wrap64_in (blen x) (by omega), IntWalk.wrap64_in _ (by omega)]

theorem lenw_b (x : Int) (w : World) (h0 : 0 ≤ x) (h1 : x ≤ 1099511627776) :
    Calls Try.prog 24 #[.int .u64 x] w fun e w' => e = .returned (.int .i64 (blen x)) ∧ Below w.heap.size w w' := by
  have BB := Below.refl w.heap.size w
  go_enter Try.func24, Try.ntmps24
  go_wp2_with (first | (go_at_call 45; refine (lenw64_b _ _ (by omega) (by omega)).mono ?_; rintro _ _ ⟨rfl, B⟩; replace BB := bon BB B))
  go_ret
  exact ⟨rfl, BB⟩

/-- The numbers of Log2 at a y from 1 to 2^40. -/
theorem lg_parts {y : Int} (h1 : 1 ≤ y) (h2 : y ≤ 1099511627776) : ∃ e p r : Int, blen y = e + 1 ∧ 0 ≤ e ∧ e ≤ 40 ∧ pw e = p ∧ 1 ≤ p ∧ p ≤ y ∧ y < 2 * p ∧ rda ((y - p) * 65536) p = r ∧ 0 ≤ r ∧ r ≤ 65536 ∧ lg y = (e - 16) * 65536 + r := by
  obtain ⟨a, b, c, d, f⟩ := blen_rng h1 h2
  obtain ⟨r, hr, _, h3, h4⟩ := lg_rem h1 h2
  refine ⟨blen y - 1, pw (blen y - 1), r, by omega, by omega, by omega, rfl, pw_pos _, c, d, hr, h3, h4, ?_⟩
  unfold lg
  rw [hr]
  omega

set_option maxRecDepth 100000 in
set_option maxHeartbeats 2000000 in
theorem slog2_b (x : Int) (w : World) : Calls Try.prog 10 #[.int .i64 x] w fun e w' => e = .returned (.int .i64 (log2v x)) ∧ Below w.heap.size w w' := by
  have BB := Below.refl w.heap.size w
  have hmin : ∀ (at_ : Array TypeId) (t : TypeId) (x y : Int) (w : World), (Builtin.min_ at_ t #[.int .i64 x, .int .i64 y]).run Try.prog w = .ok (.int .i64 (mn x y)) w := fun at_ t x y w => by simp [Builtin.min_, Builtin.min2, mn]
  by_cases h : x < 1
  · rw [log2v_low h]
    clear hmin
    go_enter Try.func10, Try.ntmps10
    go_wp2
    go_ret
    exact ⟨rfl, BB⟩
  · have hy1 : 1 ≤ mn x 1099511627776 := by unfold mn; split <;> omega
    have hy2 : mn x 1099511627776 ≤ 1099511627776 := by unfold mn; split <;> omega
    have hv : log2v x = lg (mn x 1099511627776) := if_neg h
    rw [hv]
    obtain ⟨y, hy⟩ : ∃ y, mn x 1099511627776 = y := ⟨_, rfl⟩
    rw [hy] at hy1 hy2 ⊢
    obtain ⟨e, p, r, hb, e0, e40, hp, p1, p2, p3, hr, r0, r1, hl⟩ := lg_parts hy1 hy2
    have cl := fun W => lenw_b y W (by omega) hy2
    rw [hb] at cl
    have CL := Lib.hid cl
    have cr := fun W => rounddiv_b ((y - p) * 65536) p W
    rw [hr] at cr
    have CR := Lib.hid cr
    rw [hl]
    have gy : IntKind.u64.wrap y = y := IntWalk.u64_in _ (by omega)
    have g0 : IntKind.i64.wrap e = e := IntWalk.i64_in _ (by omega)
    have GP : Hid (wrap64 (2 ^ min e.toNat 64) = p) := Lib.hid (by rw [show min e.toNat 64 = e.toNat by omega, ← hp]; exact pw_wrap e (by omega))
    have G3 : Hid (wrap64 (y - p) = y - p) := Lib.hid (IntWalk.wrap64_in _ (by omega))
    have G4 : Hid (wrap64 ((y - p) * 65536) = (y - p) * 65536) := Lib.hid (IntWalk.wrap64_in _ (by omega))
    have g1 : IntKind.i64.wrap (e - 16) = e - 16 := IntWalk.i64_in _ (by omega)
    have g2 : IntKind.i64.wrap ((e - 16) * 65536) = (e - 16) * 65536 := IntWalk.i64_in _ (by omega)
    have g5 : IntKind.i64.wrap ((e - 16) * 65536 + r) = (e - 16) * 65536 + r := IntWalk.i64_in _ (by omega)
    have he : ¬ e < 0 := by omega
    clear cl cr hl hr hp hb hv e40 p1 p2 p3 r0 r1 hy1 hy2
    go_enter Try.func10, Try.ntmps10
    go_wp2_with (first
      | (go_at_call 24; (with_reducible refine (CL.out _).mono ?_); rintro _ V1 ⟨rfl, B⟩; replace BB := bon BB B; clear B)
      | (go_at_call 25; rw [GP.out, G3.out, G4.out]; (with_reducible refine (CR.out _).mono ?_); rintro _ V1 ⟨rfl, B⟩; replace BB := bon BB B; clear B))
    go_ret
    exact ⟨rfl, BB⟩

theorem sex_1 : log2v 131072 = 65536 := by decide +kernel
theorem sex_2 : log2v 196608 = 98304 := by decide +kernel
/-- The example's sampler. -/
def exS (i : Nat) : Int := if i = 0 then 1 else if i = 1 then 1 else if i = 2 then 1 else if i = 3 then 2 else if i = 4 then 1 else if i = 11 then 65536 else 0
theorem sex_3 : SV exS := by decide +kernel
theorem sex_4 (A : Option Addr) (n c : Nat) : ∀ i, i < 4 → smv [⟨⟨1, 1, 1, [255]⟩, A, n, c⟩] exS 5 (-7) 0 i = if i = 0 then 65536 else if i = 3 then 65536 else 0 := by
  have h : ∀ i, i < 4 → smv [⟨⟨1, 1, 1, [255]⟩, none, 0, 0⟩] exS 5 (-7) 0 i = if i = 0 then 65536 else if i = 3 then 65536 else 0 := by decide +kernel
  exact h

/-- A sampler's block that may be written. -/
def SBox (W : World) (b : Nat) (s : Nat → Int) : Prop := (∀ i, i < 12 → W.cell? ⟨b, i, none⟩ = some (.int .i64 (s i))) ∧ ∀ i, W.frozen? ⟨b, i, none⟩ = false
theorem SBox.lt {W : World} {b : Nat} {s : Nat → Int} (h : SBox W b s) : b < W.heap.size := block_lt_of_cell (h.1 0 (by omega))
theorem SBox.below {W V : World} {b B : Nat} {s : Nat → Int} (h : SBox W b s) (hb : b < B) (k : Below B W V) : SBox V b s := ⟨smp_under k hb h.1, fun i => (k.frozen (p := ⟨b, i, none⟩) hb).trans (h.2 i)⟩
theorem SBox.on {W V : World} {b : Nat} {s : Nat → Int} (h : SBox W b s) (k : Below W.heap.size W V) : SBox V b s := h.below h.lt k
theorem SBox.made (W : World) (s : Nat → Int) (t : TypeId) : SBox (W.alloc (.cells (smps s) t)) W.heap.size s := ⟨smp_box W s t, fun i => by rw [frozen?_alloc_cells]; unfold World.frozen?; simp⟩

section
variable {P : Program} {ops : Array Oper} {Q : Exit → Act → World → Prop} {rest : List Oper} {o : Oper} {a : Act} {W : World} {b : Nat} {s0 : Nat → Int}
theorem wpList_sset (hg : o.guard = none) (t : TypeId) (x y : Operand) (ho : o.op = .store t x y) (s : Nat → Int) (hx : a.eval x = .pointer (some ⟨b, 0, none⟩)) (hy : a.eval y = .agg (smps s)) (K : SBox W b s0) (T : (P.info? t).map (·.size) = some 12)
    (H : ∀ V, SBox V b s → Below b W V → (∀ a : Addr, a.block ≠ b → V.cell? a = W.cell? a) → (∀ a : Addr, V.frozen? a = W.frozen? a) → wpList P ops Q rest (a.put o.dst undef) V) : wpList P ops Q (o :: rest) a W := by
  refine wpList_plain hg fun K' hK => ?_
  have hs := run_storeCells_cells (P := P) b 0 (smps s).toList 0 W (fun j hj => by
    have := K.1 j (by simpa [smps_size] using hj); simp [this]) (fun j hj => by
    have := K.2 j; simpa using this) (by simp [smps, Value.oneCell'])
  have hB : ∀ (vs : List Value) (o : Nat) (V : World), Below b W V → Below b W (V.setCells b o vs) := by
    intro vs
    induction vs with
    | nil => intro o V h; exact h
    | cons v r ih => intro o V h; exact ih (o + 1) _ (h.setCell (Nat.le_refl _) v)
  have hv : (storeVar t ⟨b, 0, none⟩ (.agg (smps s))).run P W = .ok () (W.setCells b (0 + 0) (smps s).toList) := by
    cases hq : P.info? t with
    | none => simp [hq] at T
    | some i =>
      have hz : i.size = 12 := by simpa [hq] using T
      have hm : (smps s).size = 12 := rfl
      simp [storeVar, sizeOf, typeInfo, hq, Value.cells, hz, hm, hs]
  unfold Oper.wp execOp
  simp only [ho, hx, hy, Instr.storeAt, Instr.sureAddr, Sem.run_bind, Sem.run_pure, Result.andThen_ok, hv]
  refine hK _ _ (H _ ⟨?_, ?_⟩ (hB _ _ _ (Below.refl _ _)) ?_ ?_)
  · intro i hi
    have h := World.cell?_setCells_in b (smps s).toList 0 W (fun j hj => by have := K.1 j (by simpa [smps_size] using hj); simp [this]) i (by simpa [smps_size] using hi)
    have g := smps_get s i hi
    rw [← Array.getElem?_toList, List.getElem?_eq_getElem (by simpa [smps_size] using hi)] at g
    rw [Nat.zero_add] at h
    rw [h, g]
  · intro i
    rw [World.frozen?_setCells]; exact K.2 i
  · intro a ha
    exact World.cell?_setCells_out b _ _ _ _ (fun h => absurd h ha)
  · intro a
    exact World.frozen?_setCells b _ _ _ _
end

theorem results_two {P : Program} {fn : Func} {p q : Tmp} {t u : TypeId} {W : World} {a b : Addr} {v x : Value} (h : fn.results = #[.cell p t, .cell q u]) (l1 : (loadVar t a).run P W = .ok v W) (l2 : (loadVar u b).run P W = .ok x W) (tmps : Array Value)
    (h1 : tmps.getD p undef = .pointer (some a)) (h2 : tmps.getD q undef = .pointer (some b)) : (results fn tmps).run P W = .ok (.tuple #[v, x]) W := by
  have h1' : tmps[p]?.getD undef = .pointer (some a) := by simpa using h1
  have h2' : tmps[q]?.getD undef = .pointer (some b) := by simpa using h2
  simp [results, h, h1', h2', asAddr, l1, l2]

/-- The example's texture and sampler. -/
def GivesEx (w : World) (e : Ending) (w' : World) : Prop := ∃ A A1 c, e = .returned (.tuple #[.agg #[.slice A 1 1], .agg (smps exS)]) ∧ RdI w' w'.heap.size A 1 [⟨⟨1, 1, 1, [255]⟩, A1, 1, c⟩] ∧ Below w.heap.size w w'

def exT (w : World) : Tx := ⟨⟨1, 1, 1, [255]⟩, some ⟨w.heap.size + 1 + 1, 0, none⟩, 1, 1⟩

set_option maxRecDepth 100000 in
theorem exW (w : World) : XBox (((((w.alloc (.cells #[.slice none 0 0] 41)).alloc (.cells #[.int .i64 0, .int .i64 0, .int .i64 0, .int .i64 0, .int .i64 0, .int .i64 0, .int .i64 0, .int .i64 0, .int .i64 0, .int .i64 0, .int .i64 0, .int .i64 0] 27)).alloc (.cells #[.int .u8 255] 5)).alloc (.cells #[.int .i64 1, .int .i64 1, .int .i64 1, .slice (some ⟨w.heap.size + 1 + 1, 0, none⟩) 1 1] 45)).alloc (.cells #[.slice (some ⟨w.heap.size + 1 + 1 + 1, 0, none⟩) 1 1] 41)) w.heap.size (.slice none 0 0) ∧ SBox (((((w.alloc (.cells #[.slice none 0 0] 41)).alloc (.cells #[.int .i64 0, .int .i64 0, .int .i64 0, .int .i64 0, .int .i64 0, .int .i64 0, .int .i64 0, .int .i64 0, .int .i64 0, .int .i64 0, .int .i64 0, .int .i64 0] 27)).alloc (.cells #[.int .u8 255] 5)).alloc (.cells #[.int .i64 1, .int .i64 1, .int .i64 1, .slice (some ⟨w.heap.size + 1 + 1, 0, none⟩) 1 1] 45)).alloc (.cells #[.slice (some ⟨w.heap.size + 1 + 1 + 1, 0, none⟩) 1 1] 41)) (w.heap.size + 1) (fun _ => 0) ∧
    (((((w.alloc (.cells #[.slice none 0 0] 41)).alloc (.cells #[.int .i64 0, .int .i64 0, .int .i64 0, .int .i64 0, .int .i64 0, .int .i64 0, .int .i64 0, .int .i64 0, .int .i64 0, .int .i64 0, .int .i64 0, .int .i64 0] 27)).alloc (.cells #[.int .u8 255] 5)).alloc (.cells #[.int .i64 1, .int .i64 1, .int .i64 1, .slice (some ⟨w.heap.size + 1 + 1, 0, none⟩) 1 1] 45)).alloc (.cells #[.slice (some ⟨w.heap.size + 1 + 1 + 1, 0, none⟩) 1 1] 41)).cell? ⟨w.heap.size + 1 + 1, 0, none⟩ = some (.int .u8 255) ∧ TAt (((((w.alloc (.cells #[.slice none 0 0] 41)).alloc (.cells #[.int .i64 0, .int .i64 0, .int .i64 0, .int .i64 0, .int .i64 0, .int .i64 0, .int .i64 0, .int .i64 0, .int .i64 0, .int .i64 0, .int .i64 0, .int .i64 0] 27)).alloc (.cells #[.int .u8 255] 5)).alloc (.cells #[.int .i64 1, .int .i64 1, .int .i64 1, .slice (some ⟨w.heap.size + 1 + 1, 0, none⟩) 1 1] 45)).alloc (.cells #[.slice (some ⟨w.heap.size + 1 + 1 + 1, 0, none⟩) 1 1] 41)) (w.heap.size + 1 + 1 + 1) 0 (exT w) ∧ Below w.heap.size w (((((w.alloc (.cells #[.slice none 0 0] 41)).alloc (.cells #[.int .i64 0, .int .i64 0, .int .i64 0, .int .i64 0, .int .i64 0, .int .i64 0, .int .i64 0, .int .i64 0, .int .i64 0, .int .i64 0, .int .i64 0, .int .i64 0] 27)).alloc (.cells #[.int .u8 255] 5)).alloc (.cells #[.int .i64 1, .int .i64 1, .int .i64 1, .slice (some ⟨w.heap.size + 1 + 1, 0, none⟩) 1 1] 45)).alloc (.cells #[.slice (some ⟨w.heap.size + 1 + 1 + 1, 0, none⟩) 1 1] 41)) := by
  have z1 : (w.alloc (.cells #[.slice none 0 0] 41)).heap.size = w.heap.size + 1 := by simp
  have z2 : ((w.alloc (.cells #[.slice none 0 0] 41)).alloc (.cells #[.int .i64 0, .int .i64 0, .int .i64 0, .int .i64 0, .int .i64 0, .int .i64 0, .int .i64 0, .int .i64 0, .int .i64 0, .int .i64 0, .int .i64 0, .int .i64 0] 27)).heap.size = w.heap.size + 1 + 1 := by simp
  have z3 : (((w.alloc (.cells #[.slice none 0 0] 41)).alloc (.cells #[.int .i64 0, .int .i64 0, .int .i64 0, .int .i64 0, .int .i64 0, .int .i64 0, .int .i64 0, .int .i64 0, .int .i64 0, .int .i64 0, .int .i64 0, .int .i64 0] 27)).alloc (.cells #[.int .u8 255] 5)).heap.size = w.heap.size + 1 + 1 + 1 := by simp
  have b1 := box_below w #[.slice none 0 0] 41
  have b2 := box_below (w.alloc (.cells #[.slice none 0 0] 41)) #[.int .i64 0, .int .i64 0, .int .i64 0, .int .i64 0, .int .i64 0, .int .i64 0, .int .i64 0, .int .i64 0, .int .i64 0, .int .i64 0, .int .i64 0, .int .i64 0] 27
  have b3 := box_below ((w.alloc (.cells #[.slice none 0 0] 41)).alloc (.cells #[.int .i64 0, .int .i64 0, .int .i64 0, .int .i64 0, .int .i64 0, .int .i64 0, .int .i64 0, .int .i64 0, .int .i64 0, .int .i64 0, .int .i64 0, .int .i64 0] 27)) #[.int .u8 255] 5
  have b4 := box_below (((w.alloc (.cells #[.slice none 0 0] 41)).alloc (.cells #[.int .i64 0, .int .i64 0, .int .i64 0, .int .i64 0, .int .i64 0, .int .i64 0, .int .i64 0, .int .i64 0, .int .i64 0, .int .i64 0, .int .i64 0, .int .i64 0] 27)).alloc (.cells #[.int .u8 255] 5)) #[.int .i64 1, .int .i64 1, .int .i64 1, .slice (some ⟨w.heap.size + 1 + 1, 0, none⟩) 1 1] 45
  have b5 := box_below ((((w.alloc (.cells #[.slice none 0 0] 41)).alloc (.cells #[.int .i64 0, .int .i64 0, .int .i64 0, .int .i64 0, .int .i64 0, .int .i64 0, .int .i64 0, .int .i64 0, .int .i64 0, .int .i64 0, .int .i64 0, .int .i64 0] 27)).alloc (.cells #[.int .u8 255] 5)).alloc (.cells #[.int .i64 1, .int .i64 1, .int .i64 1, .slice (some ⟨w.heap.size + 1 + 1, 0, none⟩) 1 1] 45)) #[.slice (some ⟨w.heap.size + 1 + 1 + 1, 0, none⟩) 1 1] 41
  have x1 := XBox.made w (.slice none 0 0) 41
  have x2 : SBox ((w.alloc (.cells #[.slice none 0 0] 41)).alloc (.cells #[.int .i64 0, .int .i64 0, .int .i64 0, .int .i64 0, .int .i64 0, .int .i64 0, .int .i64 0, .int .i64 0, .int .i64 0, .int .i64 0, .int .i64 0, .int .i64 0] 27)) (w.alloc (.cells #[.slice none 0 0] 41)).heap.size (fun _ => 0) := SBox.made (w.alloc (.cells #[.slice none 0 0] 41)) (fun _ => 0) 27
  have x3 := box_cell ((w.alloc (.cells #[.slice none 0 0] 41)).alloc (.cells #[.int .i64 0, .int .i64 0, .int .i64 0, .int .i64 0, .int .i64 0, .int .i64 0, .int .i64 0, .int .i64 0, .int .i64 0, .int .i64 0, .int .i64 0, .int .i64 0] 27)) #[.int .u8 255] 5 0 (.int .u8 255) rfl
  have y0 := box_cell (((w.alloc (.cells #[.slice none 0 0] 41)).alloc (.cells #[.int .i64 0, .int .i64 0, .int .i64 0, .int .i64 0, .int .i64 0, .int .i64 0, .int .i64 0, .int .i64 0, .int .i64 0, .int .i64 0, .int .i64 0, .int .i64 0] 27)).alloc (.cells #[.int .u8 255] 5)) #[.int .i64 1, .int .i64 1, .int .i64 1, .slice (some ⟨w.heap.size + 1 + 1, 0, none⟩) 1 1] 45 0 _ rfl
  have y1 := box_cell (((w.alloc (.cells #[.slice none 0 0] 41)).alloc (.cells #[.int .i64 0, .int .i64 0, .int .i64 0, .int .i64 0, .int .i64 0, .int .i64 0, .int .i64 0, .int .i64 0, .int .i64 0, .int .i64 0, .int .i64 0, .int .i64 0] 27)).alloc (.cells #[.int .u8 255] 5)) #[.int .i64 1, .int .i64 1, .int .i64 1, .slice (some ⟨w.heap.size + 1 + 1, 0, none⟩) 1 1] 45 1 _ rfl
  have y2 := box_cell (((w.alloc (.cells #[.slice none 0 0] 41)).alloc (.cells #[.int .i64 0, .int .i64 0, .int .i64 0, .int .i64 0, .int .i64 0, .int .i64 0, .int .i64 0, .int .i64 0, .int .i64 0, .int .i64 0, .int .i64 0, .int .i64 0] 27)).alloc (.cells #[.int .u8 255] 5)) #[.int .i64 1, .int .i64 1, .int .i64 1, .slice (some ⟨w.heap.size + 1 + 1, 0, none⟩) 1 1] 45 2 _ rfl
  have y3 := box_cell (((w.alloc (.cells #[.slice none 0 0] 41)).alloc (.cells #[.int .i64 0, .int .i64 0, .int .i64 0, .int .i64 0, .int .i64 0, .int .i64 0, .int .i64 0, .int .i64 0, .int .i64 0, .int .i64 0, .int .i64 0, .int .i64 0] 27)).alloc (.cells #[.int .u8 255] 5)) #[.int .i64 1, .int .i64 1, .int .i64 1, .slice (some ⟨w.heap.size + 1 + 1, 0, none⟩) 1 1] 45 3 _ rfl
  rw [z1] at x2
  rw [z2] at x3
  rw [z3] at y0 y1 y2 y3
  exact ⟨(((x1.on b2).on b3).on b4).on b5, ((x2.on b3).on b4).on b5, cell_below b5 (cell_below b4 x3), ⟨cell_below b5 y0, cell_below b5 y1, cell_below b5 y2, cell_below b5 y3⟩, bon (bon (bon (bon b1 b2) b3) b4) b5⟩

set_option maxRecDepth 100000 in
set_option maxHeartbeats 2000000 in
theorem single_b (w : World) : Calls Try.prog 29 #[] w (GivesEx w) := by
  obtain ⟨X0, E0, u0, T0, BB⟩ := exW w
  unfold GivesEx
  go_enter Try.func29, Try.ntmps29
  go_wp2_with (first
    | (refine wpList_txset rfl _ _ _ rfl rfl rfl X0 (by kernel_rfl) ?_; intro V X B hg)
    | (refine wpList_sset rfl _ _ _ rfl exS rfl rfl (⟨fun i hi => hg.cell (E0.1 i hi) (by simp), fun i => (World.frozen?_of_block (a := ⟨w.heap.size + 1, i, none⟩) (hg.block (w.heap.size + 1) E0.lt (by simp))).trans (E0.2 i)⟩ : SBox V (w.heap.size + 1) (fun _ => 0)) (by kernel_rfl) ?_; intro V2 E2 B2 hc hf))
  have hn : ∀ k, w.heap.size + 1 < k → some k ≠ some w.heap.size := fun k hk e => by injection e with e; omega
  have cells : ∀ (k o : Nat) (x : Value), w.heap.size + 1 < k → V.cell? ⟨k, o, none⟩ = some x → V2.cell? ⟨k, o, none⟩ = some x := fun k o x hk h => (hc ⟨k, o, none⟩ (by simp only [ne_eq]; omega)).trans h
  have u2 := cells (w.heap.size + 1 + 1) _ _ (by omega) (hg.cell u0 (hn (w.heap.size + 1 + 1) (by omega)))
  have t0 := cells (w.heap.size + 1 + 1 + 1) _ _ (by omega) (hg.cell T0.1 (hn (w.heap.size + 1 + 1 + 1) (by omega)))
  have t1 := cells (w.heap.size + 1 + 1 + 1) _ _ (by omega) (hg.cell T0.2.1 (hn (w.heap.size + 1 + 1 + 1) (by omega)))
  have t2 := cells (w.heap.size + 1 + 1 + 1) _ _ (by omega) (hg.cell T0.2.2.1 (hn (w.heap.size + 1 + 1 + 1) (by omega)))
  have t3 := cells (w.heap.size + 1 + 1 + 1) _ _ (by omega) (hg.cell T0.2.2.2 (hn (w.heap.size + 1 + 1 + 1) (by omega)))
  have x2 := (hc ⟨w.heap.size, 0, none⟩ (by simp only [ne_eq]; omega)).trans X.1
  have hl1 : (loadVar 41 ⟨w.heap.size, 0, none⟩).run Try.prog V2 = .ok (.agg #[.slice (some ⟨w.heap.size + 1 + 1 + 1, 0, none⟩) 1 1]) V2 :=
    run_loadVar_mid V2 w.heap.size 0 _ [.slice (some ⟨w.heap.size + 1 + 1 + 1, 0, none⟩) 1 1] _ (fun j v hv => by
      match j, hv with
      | 0, hv => simp at hv; subst hv; exact x2) Try.underlying41 rfl (by kernel_rfl)
  have hl2 : (loadVar 27 ⟨w.heap.size + 1, 0, none⟩).run Try.prog V2 = .ok (.agg (smps exS)) V2 :=
    run_loadVar_mid V2 (w.heap.size + 1) 0 _ _ _ (smp_range E2.1) Try.underlying27 rfl (by kernel_rfl)
  have hsz1 := block_lt_of_cell t0
  have hsz2 := block_lt_of_cell u2
  have hR : RdI V2 V2.heap.size (some ⟨w.heap.size + 1 + 1 + 1, 0, none⟩) 1 [exT w] := by
    refine ⟨rfl, fun _ => ⟨_, 0, rfl, hsz1, fun j t ht => ?_⟩, fun t ht => ?_⟩
    · match j, ht with
      | 0, ht =>
        simp at ht
        subst ht
        exact ⟨t0, t1, t2, t3⟩
    · rw [List.mem_singleton] at ht
      subst ht
      refine ⟨⟨rfl, fun x hx => ?_, fun _ => ⟨_, 0, rfl, hsz2, fun j x hx => ?_⟩⟩, Nat.le_refl _⟩
      · simp [exT] at hx
        subst hx
        decide
      · match j, hx with
        | 0, hx =>
          simp [exT] at hx
          subst hx
          exact u2
  exact bodyPost_ret (v := .tuple #[.agg #[.slice (some ⟨w.heap.size + 1 + 1 + 1, 0, none⟩) 1 1], .agg (smps exS)]) (results_two Try.results29 hl1 hl2 _ rfl rfl) rfl ⟨_, _, _, rfl, hR, (BB.trans B).trans (B2.mono (by omega))⟩

set_option maxRecDepth 100000 in
set_option maxHeartbeats 2000000 in
theorem sexample_b (w : World) : Calls Try.prog 14 #[] w fun e w' => e = .returned (.bool true) ∧ Below w.heap.size w w' := by
  have BB := Below.refl w.heap.size w
  have C0 := Lib.hid (fun W => single_b W)
  have cv := fun W => sval_b exS W
  rw [decide_eq_true sex_3] at cv
  unfold smps at cv
  have c1 := fun W => slog2_b 131072 W
  have c2 := fun W => slog2_b 196608 W
  rw [sex_1] at c1
  rw [sex_2] at c2
  have c3 := fun A A1 c W R => ssmp_b A 1 1 [⟨⟨1, 1, 1, [255]⟩, A1, 1, c⟩] exS 5 (-7) 0 W R (by omega)
  have e0 := fun (A : Option Addr) c => sex_4 A 1 c 0 (by omega)
  have e1 := fun (A : Option Addr) c => sex_4 A 1 c 1 (by omega)
  have e2 := fun (A : Option Addr) c => sex_4 A 1 c 2 (by omega)
  have e3 := fun (A : Option Addr) c => sex_4 A 1 c 3 (by omega)
  unfold GivesV at c3
  simp only [e0, e1, e2, e3] at c3
  unfold GivesEx at C0
  have CV := Lib.hid cv
  have C1 := Lib.hid c1
  have C2 := Lib.hid c2
  have C3 := Lib.hid c3
  clear cv c1 c2 c3 e0 e1 e2 e3
  go_enter Try.func14, Try.ntmps14
  go_wp2_with (first
    | (go_at_call 29; (with_reducible refine (C0.out _).mono ?_); rintro _ W1 ⟨A, A1, c, rfl, J3, B⟩; replace BB := bon BB B; clear B)
    | (refine wpList_txset rfl _ _ _ rfl rfl rfl ((XBox.made W1 (.slice none 0 0) 41).on (box_below (W1.alloc (.cells #[.slice none 0 0] 41)) #[.int .i64 0, .int .i64 0, .int .i64 0, .int .i64 0, .int .i64 0, .int .i64 0, .int .i64 0, .int .i64 0, .int .i64 0, .int .i64 0, .int .i64 0, .int .i64 0] 27)) (by kernel_rfl) ?_; intro V X B hg; have E0 : SBox (((W1.alloc (.cells #[.slice none 0 0] 41)).alloc (.cells #[.int .i64 0, .int .i64 0, .int .i64 0, .int .i64 0, .int .i64 0, .int .i64 0, .int .i64 0, .int .i64 0, .int .i64 0, .int .i64 0, .int .i64 0, .int .i64 0] 27))) (W1.heap.size + 1) (fun _ => 0) := (by have h := SBox.made (W1.alloc (.cells #[.slice none 0 0] 41)) (fun _ => 0) 27; rw [show (W1.alloc (.cells #[.slice none 0 0] 41)).heap.size = W1.heap.size + 1 by simp] at h; exact h))
    | (refine wpList_sset rfl _ _ _ rfl exS rfl rfl (⟨fun i hi => hg.cell (E0.1 i hi) (by simp), fun i => (World.frozen?_of_block (a := ⟨W1.heap.size + 1, i, none⟩) (hg.block (W1.heap.size + 1) E0.lt (by simp))).trans (E0.2 i)⟩ : SBox V (W1.heap.size + 1) (fun _ => 0)) (by kernel_rfl) ?_; intro V2 E2 B2 hc hf; have Bw := (((box_below W1 #[.slice none 0 0] 41).trans ((box_below (W1.alloc (.cells #[.slice none 0 0] 41)) #[.int .i64 0, .int .i64 0, .int .i64 0, .int .i64 0, .int .i64 0, .int .i64 0, .int .i64 0, .int .i64 0, .int .i64 0, .int .i64 0, .int .i64 0, .int .i64 0] 27).mono (by simp))).trans B).trans (B2.mono (by omega)); have x3 := (hc ⟨W1.heap.size, 0, none⟩ (by simp)).trans X.1; replace J3 := J3.on Bw; replace BB := bon BB Bw; have S4 := E2.1; clear Bw hc hf B B2 X E0 hg E2)
    | (go_at_call 15; (with_reducible refine (CV.out _).mono ?_); rintro _ V3 ⟨rfl, B⟩; (replace BB := bon BB B; replace x3 := cell_below B x3; replace S4 := smp_below B S4; replace J3 := RdI.on J3 B); clear B)
    | (go_at_call 10; (with_reducible refine (C1.out _).mono ?_); rintro _ V3 ⟨rfl, B⟩; (replace BB := bon BB B; replace x3 := cell_below B x3; replace S4 := smp_below B S4; replace J3 := RdI.on J3 B); clear B)
    | (go_at_call 10; (with_reducible refine (C2.out _).mono ?_); rintro _ V3 ⟨rfl, B⟩; (replace BB := bon BB B; replace x3 := cell_below B x3; replace S4 := smp_below B S4; replace J3 := RdI.on J3 B); clear B)
    | (go_at_call 16; (refine (C3.out _ _ _ _ J3).mono ?_); rintro _ V3 ⟨rfl, B⟩; (replace BB := bon BB B; replace x3 := cell_below B x3; replace S4 := smp_below B S4; replace J3 := RdI.on J3 B); clear B))
  go_ret
  exact ⟨rfl, BB⟩

end Go.Proofs.Ytoipmldbjciinaa
