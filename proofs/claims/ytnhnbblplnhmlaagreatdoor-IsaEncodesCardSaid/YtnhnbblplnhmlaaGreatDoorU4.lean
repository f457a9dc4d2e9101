/- The validator of package isa: its state in memory, what may stand where. -/
import Derived.Test.YtnhnbblplnhmlaaGreatDoorU3
import Derived.Test.YtnhnbblplnhmlaaGreatDoorTail
import Derived.Test.YtnhnbblplnhmlaaGreatDoorTreeC
namespace Go.Proofs.YtnhnbblplnhmlaaGreatDoor
set_option linter.unusedSimpArgs false
open Go.RowKit Go.Sort Go.ChangeShapes Go.WideShapes
set_option linter.unusedVariables false

/-- The opcode that begins a construct. -/
def opc (x : Int) : Int := if x = 1 then 43 else if x = 2 then 44 else if x = 3 then 46 else 0
theorem opc_rng (x : Int) : 0 ≤ opc x ∧ opc x ≤ 46 := by unfold opc; split <;> (try split) <;> (try split) <;> omega

theorem eO : Elem Tryz.prog 72 22 .i64 8 := elem_of Tryz.underlying72 (by kernel_rfl)

/-- The open constructs are of the three kinds. -/
def Kn (s : List Int) : Prop := ∀ x ∈ s, x = 1 ∨ x = 2 ∨ x = 3

/-- The validator's block. -/
structure VSt (W : World) (b : Nat) (p : Pr) (A : Option Addr) (n c : Nat) (s : List Int) : Prop where
  c0 : W.cell? ⟨b, 0, none⟩ = some (.int .i64 p.st)
  c1 : W.cell? ⟨b, 1, none⟩ = some (.int .i64 p.rg)
  c2 : W.cell? ⟨b, 2, none⟩ = some (.int .i64 p.ip)
  c3 : W.cell? ⟨b, 3, none⟩ = some (.int .i64 p.ou)
  c4 : W.cell? ⟨b, 4, none⟩ = some (.int .i64 p.un)
  c5 : W.cell? ⟨b, 5, none⟩ = some (.int .i64 p.tx)
  c6 : W.cell? ⟨b, 6, none⟩ = some (.int .i64 p.bf)
  opn : ∃ S d, W.cell? ⟨b, 8, none⟩ = some (.slice S s.length d) ∧ Own W (b + 1) 22 .i64 S s.length d (s.map opc)
  lps : W.cell? ⟨b, 9, none⟩ = some (.int .i64 ((s.count 3 : Nat) : Int))
  fre : ∀ i, W.frozen? ⟨b, i, none⟩ = false

section
variable {W V : World} {b : Nat} {p : Pr} {A : Option Addr} {n c : Nat} {s t : List Int}

theorem VSt.lt (h : VSt W b p A n c s) : b < W.heap.size := block_lt_of_cell h.c0
theorem VSt.on (h : VSt W b p A n c s) (B : Below W.heap.size W V) : VSt V b p A n c s := by
  obtain ⟨S, d, h8, own⟩ := h.opn
  exact ⟨cell_below B h.c0, cell_below B h.c1, cell_below B h.c2, cell_below B h.c3, cell_below B h.c4, cell_below B h.c5, cell_below B h.c6, ⟨S, d, cell_below B h8, own.on B⟩, cell_below B h.lps, fun i => (B.frozen (p := ⟨b, i, none⟩) h.lt).trans (h.fre i)⟩

/-- Blocks from B on stay as they were. -/
theorem Own.stay {base : Nat} {e : TypeId} {k : IntKind} {S : Option Addr} {m d : Nat} {l : List Int} (h : Own W base e k S m d l) (q : ∀ g, base ≤ g → g < W.heap.size → V.heap[g]? = W.heap[g]?) (hs : base ≤ V.heap.size) : Own V base e k S m d l := by
  refine ⟨⟨h.1.1, ?_⟩, h.2.1, hs⟩
  rcases h.1.2 with h0 | ⟨g, cap, cur, hv, hb, hh, r⟩
  · exact .inl h0
  · refine .inr ⟨g, cap, cur, hv, hb, ?_, r⟩
    rw [q g hb (by
      rcases Nat.lt_or_ge g W.heap.size with h' | h'
      · exact h'
      · rw [Array.getElem?_eq_none h'] at hh; cases hh)]
    exact hh

theorem Own.setOther {base i : Nat} {e : TypeId} {k : IntKind} {S : Option Addr} {m d : Nat} {l : List Int} {v : Value} (h : Own W base e k S m d l) (hb : b < base) : Own (W.setCell ⟨b, i, none⟩ v) base e k S m d l :=
  h.stay (fun g hg _ => Below.heap_setCell _ _ _ _ (by show g ≠ b; omega)) (by rw [World.size_setCell]; exact h.base_le)

/-- Fewer of a row. -/
theorem Own.less {base : Nat} {e : TypeId} {k : IntKind} {S : Option Addr} {m d : Nat} {l : List Int} (h : Own W base e k S (m + 1) d l) : Own W base e k S m d l.dropLast := by
  have hl := h.len
  refine ⟨⟨by simp [hl], ?_⟩, fun x hx => h.2.1 x (List.dropLast_subset _ hx), h.2.2⟩
  rcases h.1.2 with ⟨h1, h0⟩ | ⟨g, cap, cur, hv, hb, hh, hnc, hcm, hcs, htake⟩
  · omega
  · simp only [Value.slice.injEq] at hv
    obtain ⟨rfl, _, rfl⟩ := hv
    refine .inr ⟨g, d, cur, rfl, hb, hh, by omega, hcm, hcs, ?_⟩
    have e1 : (l.dropLast).map (Value.int k) = (l.map (Value.int k)).take m := by rw [List.dropLast_eq_take, hl, Nat.add_sub_cancel, List.map_take]
    rw [e1, ← htake, List.take_take]
    congr 1
    omega

theorem below_setb (i : Nat) (v : Value) : Below b W (W.setCell ⟨b, i, none⟩ v) := (Below.refl _ _).setCell (Nat.le_refl b) _

end

theorem top_nil : top [] = 0 := rfl
theorem top_snoc (s : List Int) (x : Int) : top (s ++ [x]) = x := by simp [top]

theorem ends_of {s : List Int} (h : s ≠ []) : ∃ r, s = r ++ [top s] := by
  refine ⟨s.dropLast, ?_⟩
  rw [top, List.getLast?_eq_some_getLast h]
  exact (List.dropLast_concat_getLast h).symm

set_option maxRecDepth 100000 in
theorem innermost_b (b : Nat) (p : Pr) (A : Option Addr) (n c : Nat) (s : List Int) (w : World) (h : VSt w b p A n c s) (hs : s.length ≤ 16384) :
    Calls Tryz.prog 108 #[.pointer (some ⟨b, 0, none⟩)] w fun e w' => e = .returned (.int .i64 (opc (top s))) ∧ Below w.heap.size w w' := by
  obtain ⟨S, d, c8, own⟩ := h.opn
  have BB : Below w.heap.size w w := Below.refl _ _
  rcases Nat.eq_zero_or_pos s.length with h0 | h0
  · obtain rfl : s = [] := List.eq_nil_of_length_eq_zero h0
    clear h own
    go_enter Tryz.func108, Tryz.ntmps108
    go_wp2
    go_ret
    exact ⟨rfl, BB⟩
  · obtain ⟨r, hr⟩ := ends_of (List.ne_nil_of_length_pos h0)
    obtain ⟨q, hq⟩ : ∃ q, opc (top s) = q := ⟨_, rfl⟩
    obtain ⟨o, off, x, rfl, cx, _, _, hx⟩ := (own.rd.below (Below.refl _ _)).int (j := s.length - 1) (by omega)
    obtain rfl : x = q := by
      have := hx.out
      rw [List.getElem?_map, ← List.getLast?_eq_getElem?, List.getLast?_eq_some_getLast (List.ne_nil_of_length_pos h0)] at this
      rw [top, List.getLast?_eq_some_getLast (List.ne_nil_of_length_pos h0)] at hq
      simp at this hq
      omega
    rw [hq]
    obtain ⟨m, hm⟩ : ∃ m, s.length = m + 1 := ⟨s.length - 1, by omega⟩
    rw [hm] at c8 cx hs
    rw [Nat.add_sub_cancel] at cx
    clear h own hx hr hm h0 hq
    go_enter Tryz.func108, Tryz.ntmps108
    go_wp2_with fail
    have k_c8 := cell_regrown c8
    have k_cx := cell_regrown cx
    refine wp_region_quiet_below (by kernel_rfl) (by kernel_rfl) ?_
    repeat (first | go_big_quiet_step ((first | fail)) | quiet_step ((first | fail)))
    refine wpQuiet_nil ?_
    intro W hw'
    have B := below_regrown' hw'
    clear hw' k_c8 k_cx
    replace BB := bon BB B
    replace c8 := cell_below B c8
    replace cx := cell_below B cx
    go_wp2
    go_ret
    exact ⟨rfl, BB⟩

set_option maxRecDepth 100000 in
theorem inputs_q (b : Nat) (p : Pr) (A : Option Addr) (n c : Nat) (s : List Int) (w : World) (h : VSt w b p A n c s) (hp : cnts p = true) :
    Calls Tryz.prog 107 #[.pointer (some ⟨b, 0, none⟩)] w fun e w' => e = .returned (.int .i64 (if p.st = 3 then 3 * p.ip else p.ip)) ∧ w = w' := by
  have c0 := h.c0
  have c2 := h.c2
  have h1 : 0 ≤ p.ip ∧ p.ip ≤ 32 := by simp [cnts, wth] at hp; omega
  clear h hp
  by_cases h3 : p.st = 3
  · rw [if_pos h3]
    rw [h3] at c0
    go_enter Tryz.func107, Tryz.ntmps107
    go_wp2
    go_ret
    exact ⟨rfl, rfl⟩
  · rw [if_neg h3]
    have h4 : (p.st == 3) = false := by simpa using h3
    go_enter Tryz.func107, Tryz.ntmps107
    go_wp2
    go_ret
    exact ⟨rfl, rfl⟩

set_option maxRecDepth 100000 in
theorem isImmediate_q (b : Nat) (p : Pr) (A : Option Addr) (n c : Nat) (s : List Int) (o i : Int) (w : World) (h : VSt w b p A n c s) (hp : cnts p = true) :
    Calls Tryz.prog 87 #[.pointer (some ⟨b, 0, none⟩), .int .i64 o, .int .i64 i] w fun e w' => e = .returned (.bool (immO p o i)) ∧ w = w' := by
  have C := Lib.hid (inputs_q b p A n c s w h hp)
  have W := Lib.hid (fun n lo hi W => isWithin_q n lo hi W)
  have c3 := h.c3
  have c4 := h.c4
  have c5 := h.c5
  have c6 := h.c6
  have h1 : (0 ≤ p.ip ∧ p.ip ≤ 32) ∧ (0 ≤ p.ou ∧ p.ou ≤ 32) ∧ (0 ≤ p.un ∧ p.un ≤ 64) ∧ (0 ≤ p.tx ∧ p.tx ≤ 4) ∧ (0 ≤ p.bf ∧ p.bf ≤ 4) := by simp [cnts, wth] at hp; omega
  have hI : (0 ≤ (if p.st = 3 then 3 * p.ip else p.ip)) ∧ (if p.st = 3 then 3 * p.ip else p.ip) ≤ 96 := by split <;> omega
  obtain ⟨N, hN⟩ : ∃ N, (if p.st = 3 then 3 * p.ip else p.ip) = N := ⟨_, rfl⟩
  rw [hN] at C hI
  have HN := Lib.hid hN
  clear h hp hN
  go_enter Tryz.func87, Tryz.ntmps87
  go_wp2_with (first
    | (go_at_call 80; (with_reducible refine (W.out _ _ _ _).mono ?_); rintro _ _ ⟨rfl, rfl⟩)
    | (go_at_call 107; (with_reducible refine C.out.mono ?_); rintro _ _ ⟨rfl, rfl⟩))
  all_goals
    go_ret
    refine ⟨ret_bool2 ?_, rfl⟩
    simp_all [immO, immB, HN.out]

theorem top_ways {s : List Int} (h : Kn s) : top s = 0 ∨ top s = 1 ∨ top s = 2 ∨ top s = 3 := by
  by_cases h0 : s = []
  · subst h0; exact .inl rfl
  · rw [top, List.getLast?_eq_some_getLast h0]
    exact .inr (h _ (List.getLast_mem h0))

set_option maxRecDepth 100000 in
set_option maxHeartbeats 2000000 in
theorem isPlaced_b (b : Nat) (p : Pr) (A : Option Addr) (n c : Nat) (s : List Int) (o : Int) (w : World) (h : VSt w b p A n c s) (hk : Kn s) (hs : s.length ≤ 16384) :
    Calls Tryz.prog 88 #[.pointer (some ⟨b, 0, none⟩), .int .i64 o] w fun e w' => e = .returned (.bool (stp p.st o s).isSome) ∧ Below w.heap.size w w' := by
  have HV := Lib.hid h
  have BB : Below w.heap.size w w := Below.refl _ _
  have c0 := h.c0
  have c9 := h.lps
  have ci := fun W V => innermost_b b p A n c s W V hs
  have hc : s.count 3 ≤ 16384 := Nat.le_trans List.count_le_length hs
  obtain ⟨k, hk3⟩ : ∃ k, s.count 3 = k := ⟨_, rfl⟩
  rw [hk3] at c9 hc
  have HK := Lib.hid hk3
  rcases top_ways hk with ht | ht | ht | ht
  all_goals
    have HT := Lib.hid ht
    rw [ht] at ci
    simp only [opc] at ci
    have C := Lib.hid ci
    clear h hk hs hk3 ht ci
    go_enter Tryz.func88, Tryz.ntmps88
    go_wp2_with (go_at_call 108; (with_reducible refine (C.out _ (HV.out.on BB)).mono ?_); rintro _ _ ⟨rfl, B⟩; replace BB := bon BB B; clear B)
    all_goals
      go_ret
      refine ⟨ret_bool2 ?_, BB⟩
      simp_all [stp, HT.out, HK.out]
      all_goals (try (split <;> simp_all)) <;> (try omega)

section
variable {W V : World} {b : Nat} {p : Pr} {A : Option Addr} {n c : Nat} {s t : List Int}

theorem VSt.of (h : VSt W b p A n c s) (hV : ∀ i, i < 7 → V.cell? ⟨b, i, none⟩ = W.cell? ⟨b, i, none⟩) {S : Option Addr} {d : Nat} (h8 : V.cell? ⟨b, 8, none⟩ = some (.slice S t.length d)) (own : Own V (b + 1) 22 .i64 S t.length d (t.map opc))
    (h9 : V.cell? ⟨b, 9, none⟩ = some (.int .i64 ((t.count 3 : Nat) : Int))) (hf : ∀ i, V.frozen? ⟨b, i, none⟩ = W.frozen? ⟨b, i, none⟩) : VSt V b p A n c t :=
  ⟨(hV 0 (by decide)).trans h.c0, (hV 1 (by decide)).trans h.c1, (hV 2 (by decide)).trans h.c2, (hV 3 (by decide)).trans h.c3, (hV 4 (by decide)).trans h.c4, (hV 5 (by decide)).trans h.c5, (hV 6 (by decide)).trans h.c6, ⟨S, d, h8, own⟩, h9, fun i => (hf i).trans (h.fre i)⟩

/-- The slice of open constructs stored anew, their number of loops as it was. -/
theorem VSt.put8 (h : VSt W b p A n c s) (B : Below (b + 1) W V) {S : Option Addr} {d : Nat} (own : Own V (b + 1) 22 .i64 S t.length d (t.map opc)) (hc : t.count 3 = s.count 3) : VSt (V.setCell ⟨b, 8, none⟩ (.slice S t.length d)) b p A n c t := by
  obtain ⟨S0, d0, k8, _⟩ := h.opn
  have hb : b < b + 1 := Nat.lt_succ_self b
  refine h.of (fun i hi => ?_) (World.cell?_setCell_same _ _ _ ((B.cell (p := ⟨b, 8, none⟩) hb).trans k8)) (own.setOther hb) ?_ (fun i => ?_)
  · rw [World.cell?_setCell_other _ _ _ _ (by intro e; injection e; omega)]; exact B.cell (p := ⟨b, i, none⟩) hb
  · rw [World.cell?_setCell_other _ _ _ _ (by intro e; injection e; omega), hc]; exact (B.cell (p := ⟨b, 9, none⟩) hb).trans h.lps
  · rw [World.frozen?_setCell]; exact B.frozen (p := ⟨b, i, none⟩) hb

theorem VSt.put89 (h : VSt W b p A n c s) (B : Below (b + 1) W V) {S : Option Addr} {d : Nat} (own : Own V (b + 1) 22 .i64 S t.length d (t.map opc)) {k : Int} (hk : k = ((t.count 3 : Nat) : Int)) : VSt ((V.setCell ⟨b, 8, none⟩ (.slice S t.length d)).setCell ⟨b, 9, none⟩ (.int .i64 k)) b p A n c t := by
  subst hk
  obtain ⟨S0, d0, k8, _⟩ := h.opn
  have hb : b < b + 1 := Nat.lt_succ_self b
  have q9 : (V.setCell ⟨b, 8, none⟩ (.slice S t.length d)).cell? ⟨b, 9, none⟩ = some (.int .i64 ((s.count 3 : Nat) : Int)) := by
    rw [World.cell?_setCell_other _ _ _ _ (by intro e; injection e; omega)]; exact (B.cell (p := ⟨b, 9, none⟩) hb).trans h.lps
  refine h.of (fun i hi => ?_) ?_ ((own.setOther hb).setOther hb) (World.cell?_setCell_same _ _ _ q9) (fun i => ?_)
  · rw [World.cell?_setCell_other _ _ _ _ (by intro e; injection e; omega), World.cell?_setCell_other _ _ _ _ (by intro e; injection e; omega)]; exact B.cell (p := ⟨b, i, none⟩) hb
  · rw [World.cell?_setCell_other _ _ _ _ (by intro e; injection e; omega)]; exact World.cell?_setCell_same _ _ _ ((B.cell (p := ⟨b, 8, none⟩) hb).trans k8)
  · rw [World.frozen?_setCell, World.frozen?_setCell]; exact B.frozen (p := ⟨b, i, none⟩) hb

end

theorem map_snoc (s : List Int) (x : Int) : (s ++ [x]).map opc = s.map opc ++ [opc x] := by simp
theorem count_snoc (s : List Int) (x : Int) : (s ++ [x]).count 3 = s.count 3 + if x = 3 then 1 else 0 := by
  rw [List.count_append, List.count_singleton]
  simp
theorem own_snoc {W : World} {base n d : Nat} {S : Option Addr} {s : List Int} {x y : Int} (h : Own W base 22 .i64 S n d (s.map opc ++ [y])) (hy : y = opc x) : Own W base 22 .i64 S (s ++ [x]).length d ((s ++ [x]).map opc) ∧ n = (s ++ [x]).length := by
  subst hy
  rw [← map_snoc] at h
  have := h.len
  rw [List.length_map] at this
  exact ⟨this ▸ h, this.symm⟩

theorem own_drop {W : World} {base m d : Nat} {S : Option Addr} {s : List Int} (h : Own W base 22 .i64 S (m + 1) d (s.map opc)) : Own W base 22 .i64 S s.dropLast.length d (s.dropLast.map opc) ∧ m = s.dropLast.length := by
  have h1 := h.len
  rw [List.length_map] at h1
  have h2 : m = s.dropLast.length := by rw [List.length_dropLast]; omega
  have h3 := h.less
  rw [← List.map_dropLast] at h3
  exact ⟨h2 ▸ h3, h2⟩
theorem count_drop {s : List Int} (h : s ≠ []) : s.count 3 = s.dropLast.count 3 + if top s = 3 then 1 else 0 := by
  have e : s = s.dropLast ++ [top s] := by
    rw [top, List.getLast?_eq_some_getLast h]
    exact (List.dropLast_concat_getLast h).symm
  conv => lhs; rw [e]
  exact count_snoc _ _

theorem end0 {P : Program} {fn : Func} {R : Ending → World → Prop} {a : Act} {w : World} (hr : (results fn a.tmps).run P w = .ok (.tuple #[]) w) (hd : a.defers = []) (hR : R (.returned (.tuple #[])) w) : bodyPost P fn R .normal a w := ⟨hd, _, hr, hR⟩

set_option maxRecDepth 100000 in
set_option maxHeartbeats 2000000 in
theorem follow43_b (b : Nat) (p : Pr) (A : Option Addr) (n c : Nat) (s : List Int) (w : World) (h : VSt w b p A n c s) (hs : s.length ≤ 16384) :
    Calls Tryz.prog 89 #[.pointer (some ⟨b, 0, none⟩), .int .i64 43] w fun e w' => e = .returned (.tuple #[]) ∧ VSt w' b p A n c (s ++ [1]) ∧ Below b w w' := by
  have HV := Lib.hid h
  obtain ⟨S, d, c8, own⟩ := h.opn
  have c9 := h.lps
  have z8 := h.fre 8
  have z9 := h.fre 9
  have hc : s.count 3 ≤ 16384 := Nat.le_trans List.count_le_length hs
  obtain ⟨k, hk⟩ : ∃ k, s.count 3 = k := ⟨_, rfl⟩
  rw [hk] at c9 hc
  have HK := Lib.hid hk
  obtain ⟨N, hN⟩ : ∃ N, s.length = N := ⟨_, rfl⟩
  rw [hN] at c8 own hs
  have OW := Lib.hid own
  have HN := Lib.hid hN
  clear h own hN hk
  go_enter Tryz.func89, Tryz.ntmps89
  go_wp2_with (at_builtin; refine wpList_app1 _ rfl _ _ _ rfl eO OW.out rfl (by decide) rfl (by simp only [maxLen]; omega) (by omega) ?_; intro S1 n1 d1 W1 own1 B1; have c81 := (B1.cell (p := ⟨b, 8, none⟩) (Nat.lt_succ_self b)).trans c8; have z81 := (B1.frozen (p := ⟨b, 8, none⟩) (Nat.lt_succ_self b)).trans z8; have c91 := (B1.cell (p := ⟨b, 9, none⟩) (Nat.lt_succ_self b)).trans c9; have z91 := (B1.frozen (p := ⟨b, 9, none⟩) (Nat.lt_succ_self b)).trans z9)
  refine end0 (by simp [results, Tryz.results89, go_sem]) rfl ⟨rfl, ?_⟩
  obtain ⟨own2, rfl⟩ := own_snoc (x := 1) own1 rfl
  exact ⟨HV.out.put8 B1 own2 (by rw [count_snoc]; simp), (B1.mono (Nat.le_succ b)).setCell (Nat.le_refl _) _⟩

set_option maxRecDepth 100000 in
set_option maxHeartbeats 2000000 in
theorem follow46_b (b : Nat) (p : Pr) (A : Option Addr) (n c : Nat) (s : List Int) (w : World) (h : VSt w b p A n c s) (hs : s.length ≤ 16384) :
    Calls Tryz.prog 89 #[.pointer (some ⟨b, 0, none⟩), .int .i64 46] w fun e w' => e = .returned (.tuple #[]) ∧ VSt w' b p A n c (s ++ [3]) ∧ Below b w w' := by
  have HV := Lib.hid h
  obtain ⟨S, d, c8, own⟩ := h.opn
  have c9 := h.lps
  have z8 := h.fre 8
  have z9 := h.fre 9
  have hc : s.count 3 ≤ 16384 := Nat.le_trans List.count_le_length hs
  obtain ⟨k, hk⟩ : ∃ k, s.count 3 = k := ⟨_, rfl⟩
  rw [hk] at c9 hc
  have HK := Lib.hid hk
  obtain ⟨N, hN⟩ : ∃ N, s.length = N := ⟨_, rfl⟩
  rw [hN] at c8 own hs
  have OW := Lib.hid own
  have HN := Lib.hid hN
  clear h own hN hk
  go_enter Tryz.func89, Tryz.ntmps89
  go_wp2_with (at_builtin; refine wpList_app1 _ rfl _ _ _ rfl eO OW.out rfl (by decide) rfl (by simp only [maxLen]; omega) (by omega) ?_; intro S1 n1 d1 W1 own1 B1; have c81 := (B1.cell (p := ⟨b, 8, none⟩) (Nat.lt_succ_self b)).trans c8; have z81 := (B1.frozen (p := ⟨b, 8, none⟩) (Nat.lt_succ_self b)).trans z8; have c91 := (B1.cell (p := ⟨b, 9, none⟩) (Nat.lt_succ_self b)).trans c9; have z91 := (B1.frozen (p := ⟨b, 9, none⟩) (Nat.lt_succ_self b)).trans z9)
  refine end0 (by simp [results, Tryz.results89, go_sem]) rfl ⟨rfl, ?_⟩
  obtain ⟨own2, rfl⟩ := own_snoc (x := 3) own1 rfl
  exact ⟨HV.out.put89 B1 own2 (by rw [count_snoc, HK.out]; simp), ((B1.mono (Nat.le_succ b)).setCell (Nat.le_refl _) _).setCell (Nat.le_refl _) _⟩

set_option maxRecDepth 100000 in
set_option maxHeartbeats 2000000 in
theorem follow45_b (b : Nat) (p : Pr) (A : Option Addr) (n c : Nat) (s : List Int) (w : World) (h : VSt w b p A n c s) (hs : s.length ≤ 16384) (h0 : 0 < s.length) (ht : top s ≠ 3) :
    Calls Tryz.prog 89 #[.pointer (some ⟨b, 0, none⟩), .int .i64 45] w fun e w' => e = .returned (.tuple #[]) ∧ VSt w' b p A n c (s.dropLast) ∧ Below b w w' := by
  have HV := Lib.hid h
  obtain ⟨S, d, c8, own⟩ := h.opn
  have c9 := h.lps
  have z8 := h.fre 8
  have z9 := h.fre 9
  have hc : s.count 3 ≤ 16384 := Nat.le_trans List.count_le_length hs
  obtain ⟨k, hk⟩ : ∃ k, s.count 3 = k := ⟨_, rfl⟩
  rw [hk] at c9 hc
  have HK := Lib.hid hk
  obtain ⟨N, hN⟩ : ∃ N, s.length = N := ⟨_, rfl⟩
  rw [hN] at c8 own hs
  have OW := Lib.hid own
  have HN := Lib.hid hN
  have HT := Lib.hid ht
  rw [hN] at h0
  obtain ⟨m, rfl⟩ : ∃ m, N = m + 1 := ⟨N - 1, by omega⟩
  have hnc := own.room
  have BB : Below w.heap.size w w := Below.refl _ _
  clear ht h own hN hk
  go_enter Tryz.func89, Tryz.ntmps89
  go_wp2_with fail
  have k_c8 := cell_regrown c8
  have k_c9 := cell_regrown c9
  refine wp_region_tail (n := 14) (by kernel_rfl) (by kernel_rfl) ?_
  simp only [List.take_succ_cons, List.take_zero, List.drop_succ_cons, List.drop_zero]
  repeat (first | go_big_quiet_step ((first | fail)) | quiet_step ((first | fail)))
  refine wpQuiet_nil ?_
  intro W hw'
  have B := below_regrown' hw'
  clear hw' k_c8 k_c9
  replace BB := bon BB B
  replace z8 := frozen_below B c8 z8
  replace z9 := frozen_below B c9 z9
  replace c8 := cell_below B c8
  replace c9 := cell_below B c9
  go_wp2
  refine end0 (by simp [results, Tryz.results89, go_sem]) rfl ⟨rfl, ?_⟩
  obtain ⟨own2, rfl⟩ := own_drop (OW.out.on BB)
  have hlt := HV.out.lt
  have B0 := BB.mono (show b + 1 ≤ w.heap.size from hlt)
  refine ⟨HV.out.put8 B0 own2 ?_, (B0.mono (Nat.le_succ b)).setCell (Nat.le_refl _) _⟩
  have := count_drop (List.ne_nil_of_length_pos (show 0 < s.length by rw [HN.out]; omega))
  rw [if_neg HT.out] at this
  omega

set_option maxRecDepth 100000 in
set_option maxHeartbeats 2000000 in
theorem follow49_b (b : Nat) (p : Pr) (A : Option Addr) (n c : Nat) (s : List Int) (w : World) (h : VSt w b p A n c s) (hs : s.length ≤ 16384) (h0 : 0 < s.length) (ht : top s = 3) :
    Calls Tryz.prog 89 #[.pointer (some ⟨b, 0, none⟩), .int .i64 49] w fun e w' => e = .returned (.tuple #[]) ∧ VSt w' b p A n c (s.dropLast) ∧ Below b w w' := by
  have HV := Lib.hid h
  obtain ⟨S, d, c8, own⟩ := h.opn
  have c9 := h.lps
  have z8 := h.fre 8
  have z9 := h.fre 9
  have hc : s.count 3 ≤ 16384 := Nat.le_trans List.count_le_length hs
  obtain ⟨k, hk⟩ : ∃ k, s.count 3 = k := ⟨_, rfl⟩
  rw [hk] at c9 hc
  have HK := Lib.hid hk
  obtain ⟨N, hN⟩ : ∃ N, s.length = N := ⟨_, rfl⟩
  rw [hN] at c8 own hs
  have OW := Lib.hid own
  have HN := Lib.hid hN
  have HT := Lib.hid ht
  rw [hN] at h0
  obtain ⟨m, rfl⟩ : ∃ m, N = m + 1 := ⟨N - 1, by omega⟩
  have hnc := own.room
  have BB : Below w.heap.size w w := Below.refl _ _
  clear ht h own hN hk
  go_enter Tryz.func89, Tryz.ntmps89
  go_wp2_with fail
  have k_c8 := cell_regrown c8
  have k_c9 := cell_regrown c9
  refine wp_region_tail (n := 14) (by kernel_rfl) (by kernel_rfl) ?_
  simp only [List.take_succ_cons, List.take_zero, List.drop_succ_cons, List.drop_zero]
  repeat (first | go_big_quiet_step ((first | fail)) | quiet_step ((first | fail)))
  refine wpQuiet_nil ?_
  intro W hw'
  have B := below_regrown' hw'
  clear hw' k_c8 k_c9
  replace BB := bon BB B
  replace z8 := frozen_below B c8 z8
  replace z9 := frozen_below B c9 z9
  replace c8 := cell_below B c8
  replace c9 := cell_below B c9
  go_wp2
  refine end0 (by simp [results, Tryz.results89, go_sem]) rfl ⟨rfl, ?_⟩
  obtain ⟨own2, rfl⟩ := own_drop (OW.out.on BB)
  have hlt := HV.out.lt
  have B0 := BB.mono (show b + 1 ≤ w.heap.size from hlt)
  refine ⟨HV.out.put89 B0 own2 ?_, ((B0.mono (Nat.le_succ b)).setCell (Nat.le_refl _) _).setCell (Nat.le_refl _) _⟩
  have := count_drop (List.ne_nil_of_length_pos (show 0 < s.length by rw [HN.out]; omega))
  rw [if_pos HT.out, HK.out] at this
  omega

theorem map_last {s : List Int} (h : s ≠ []) (x : Int) : (s.map opc).set (s.length - 1) (opc x) = (s.dropLast ++ [x]).map opc := by
  have e : s = s.dropLast ++ [s.getLast h] := (List.dropLast_concat_getLast h).symm
  have hl : s.length - 1 = (s.dropLast.map opc).length := by rw [List.length_map, List.length_dropLast]
  rw [hl]
  conv => lhs; rw [e]
  rw [map_snoc, List.dropLast_concat, List.set_append_right _ _ (Nat.le_refl _), Nat.sub_self, map_snoc]
  rfl

set_option maxRecDepth 100000 in
set_option maxHeartbeats 2000000 in
theorem follow44_b (b : Nat) (p : Pr) (A : Option Addr) (n c : Nat) (s : List Int) (w : World) (h : VSt w b p A n c s) (hs : s.length ≤ 16384) (h0 : 0 < s.length) (ht : top s = 1) :
    Calls Tryz.prog 89 #[.pointer (some ⟨b, 0, none⟩), .int .i64 44] w fun e w' => e = .returned (.tuple #[]) ∧ VSt w' b p A n c (s.dropLast ++ [2]) ∧ Below b w w' := by
  have HV := Lib.hid h
  obtain ⟨S, d, c8, own⟩ := h.opn
  obtain ⟨m, hm⟩ : ∃ m, s.length = m + 1 := ⟨s.length - 1, by omega⟩
  rw [hm] at c8 own hs
  obtain ⟨o, rfl, hob, -, -, -, -⟩ := own.stored (j := m) (v := 44) (by omega) (by decide)
  have hnc := own.room
  have BB : Below w.heap.size w w := Below.refl _ _
  have OW := Lib.hid own
  have HN := Lib.hid hm
  have HT := Lib.hid ht
  clear h own hm ht h0
  go_enter Tryz.func89, Tryz.ntmps89
  go_wp2_with fail
  have k_c8 := cell_regrown c8
  refine wp_region_tail (n := 12) (by kernel_rfl) (by kernel_rfl) ?_
  simp only [List.take_succ_cons, List.take_zero, List.drop_succ_cons, List.drop_zero]
  repeat (first | go_big_quiet_step ((first | fail)) | quiet_step ((first | fail)))
  refine wpQuiet_nil ?_
  intro W hw'
  have B := below_regrown' hw'
  clear hw' k_c8
  replace BB := bon BB B
  replace c8 := cell_below B c8
  have OW2 := OW.out.on BB
  obtain ⟨o', e', -, ⟨u, cu⟩, zu, own3, B3⟩ := OW2.stored (j := m) (v := 44) (by omega) (by decide)
  obtain rfl : o = o' := by injection e' with e'; injection e'
  have O3 := Lib.hid own3
  have B3H := Lib.hid B3
  clear OW2 own3 B3 e'
  go_wp2_with fail
  refine end0 (by simp [results, Tryz.results89, go_sem]) rfl ⟨rfl, ?_⟩
  have hne : s ≠ [] := List.ne_nil_of_length_pos (by rw [HN.out]; omega)
  have e1 : m = s.length - 1 := by rw [HN.out]; omega
  have e2 : (s.map opc).set m 44 = (s.dropLast ++ [2]).map opc := by rw [e1]; exact map_last hne 2
  have e3 : m + 1 = (s.dropLast ++ [2]).length := by rw [List.length_append, List.length_dropLast, List.length_singleton, HN.out]; omega
  have e4 : (s.dropLast ++ [2]).count 3 = s.count 3 := by
    rw [count_snoc, count_drop hne, HT.out]; simp
  have hlt := HV.out.lt
  have B0 := BB.mono (show b + 1 ≤ w.heap.size from hlt)
  have hb : b < b + 1 := Nat.lt_succ_self b
  have HV2 := HV.out.on BB
  have own4 := O3.out
  rw [e2, e3] at own4
  have hob2 : b ≠ o := by omega
  have q : ∀ i, (W.setCell ⟨o, m, none⟩ (.int .i64 44)).cell? ⟨b, i, none⟩ = W.cell? ⟨b, i, none⟩ := fun i => World.cell?_setCell_other _ _ _ _ (by intro e; injection e; omega)
  refine ⟨HV2.of (fun i hi => q i) (by rw [q, ← e3]; exact c8) own4 (by rw [q, e4]; exact HV2.lps) (fun i => by rw [World.frozen?_setCell]), (B0.mono (Nat.le_succ b)).setCell (show b ≤ o by omega) _⟩

set_option maxRecDepth 100000 in
set_option maxHeartbeats 2000000 in
theorem followN_b (b : Nat) (p : Pr) (A : Option Addr) (n c : Nat) (s : List Int) (o : Int) (w : World) (h : VSt w b p A n c s) (h1 : o ≠ 43) (h2 : o ≠ 44) (h3 : o ≠ 45) (h4 : o ≠ 46) (h5 : o ≠ 49) :
    Calls Tryz.prog 89 #[.pointer (some ⟨b, 0, none⟩), .int .i64 o] w fun e w' => e = .returned (.tuple #[]) ∧ VSt w' b p A n c s ∧ Below b w w' := by
  have HV := Lib.hid h
  have n1 : (o == 43) = false := by simpa using h1
  have n2 : (o == 44) = false := by simpa using h2
  have n3 : (o == 45) = false := by simpa using h3
  have n4 : (o == 46) = false := by simpa using h4
  have n5 : (o == 49) = false := by simpa using h5
  clear h
  go_enter Tryz.func89, Tryz.ntmps89
  go_wp2
  refine end0 (by simp [results, Tryz.results89, go_sem]) rfl ⟨rfl, HV.out, Below.refl _ _⟩

/-- Behind an opcode that may stand here. -/
theorem follow_b (b : Nat) (p : Pr) (A : Option Addr) (n c : Nat) (s t : List Int) (o : Int) (w : World) (h : VSt w b p A n c s) (hs : s.length ≤ 16384) (hk : Kn s) (ht : stp p.st o s = some t) :
    Calls Tryz.prog 89 #[.pointer (some ⟨b, 0, none⟩), .int .i64 o] w fun e w' => e = .returned (.tuple #[]) ∧ VSt w' b p A n c t ∧ Below b w w' := by
  have hpos : top s ≠ 0 → 0 < s.length := fun q => by
    cases s with
    | nil => exact absurd top_nil q
    | cons x r => simp
  unfold stp at ht
  by_cases q1 : o = 43
  · subst q1
    rw [if_pos rfl] at ht
    obtain rfl := Option.some.inj ht
    exact follow43_b b p A n c s w h hs
  rw [if_neg q1] at ht
  by_cases q2 : o = 44
  · subst q2
    rw [if_pos rfl] at ht
    split at ht
    · rename_i q
      obtain rfl := Option.some.inj ht
      exact follow44_b b p A n c s w h hs (hpos (by rw [q]; decide)) q
    · cases ht
  rw [if_neg q2] at ht
  by_cases q3 : o = 45
  · subst q3
    rw [if_pos rfl] at ht
    split at ht
    · rename_i q
      obtain rfl := Option.some.inj ht
      exact follow45_b b p A n c s w h hs (hpos (by omega)) (by omega)
    · cases ht
  rw [if_neg q3] at ht
  by_cases q4 : o = 46
  · subst q4
    rw [if_pos rfl] at ht
    split at ht
    · obtain rfl := Option.some.inj ht
      exact follow46_b b p A n c s w h hs
    · cases ht
  rw [if_neg q4] at ht
  by_cases q5 : o = 49
  · subst q5
    rw [if_pos rfl] at ht
    split at ht
    · rename_i q
      obtain rfl := Option.some.inj ht
      exact follow49_b b p A n c s w h hs (hpos (by omega)) (by omega)
    · cases ht
  rw [if_neg q5] at ht
  have e : s = t := by
    repeat' (first | (split at ht) | (cases ht; done) | exact Option.some.inj ht)
  subst e
  exact followN_b b p A n c s o w h q1 q2 q3 q4 q5

theorem stp_kn {st o : Int} {s t : List Int} (hk : Kn s) (h : stp st o s = some t) : Kn t ∧ t.length ≤ s.length + 1 := by
  have hd : Kn s.dropLast := fun x hx => hk x (List.dropLast_subset _ hx)
  have ha : ∀ r : List Int, Kn r → ∀ x : Int, x = 1 ∨ x = 2 ∨ x = 3 → Kn (r ++ [x]) := fun r hr x hx y hy => by
    rcases List.mem_append.1 hy with q | q
    · exact hr y q
    · rw [List.mem_singleton] at q; subst q; exact hx
  unfold stp at h
  repeat' (first | (split at h) | (cases h; done) | (obtain rfl := Option.some.inj h))
  all_goals first
    | exact ⟨hk, by omega⟩
    | exact ⟨hd, by rw [List.length_dropLast]; omega⟩
    | exact ⟨ha _ hk _ (by omega), by simp⟩
    | exact ⟨ha _ hd _ (by omega), by rw [List.length_append, List.length_dropLast, List.length_singleton]; omega⟩

set_option maxRecDepth 100000 in
set_option maxHeartbeats 4000000 in
theorem hasRegisters_b (b : Nat) (p : Pr) (A : Option Addr) (n c : Nat) (s : List Int) (x : In) (w : World) (h : VSt w b p A n c s) (hp : cnts p = true) :
    Calls Tryz.prog 86 #[.pointer (some ⟨b, 0, none⟩), .agg (inA x)] w fun e w' => e = .returned (.bool (regs p.rg x)) ∧ Below w.heap.size w w' := by
  obtain ⟨c0, c1, c2, c3, c4, c5, BB⟩ := boxI w x 24
  have p1 := cell_below BB h.c1
  have hr : 0 ≤ p.rg ∧ p.rg ≤ 8192 := by simp [cnts, wth] at hp; omega
  have c := fun W => operands_q x.o W
  have W := Lib.hid (fun n lo hi W => isWithin_q n lo hi W)
  clear h hp
  rcases cl_ways x.o with h | h | h | h | h | h | h | h | h | h | h
  all_goals
    rw [h] at c
    have C := Lib.hid c
    have H := Lib.hid h
    clear c h
    simp only [flg, fD, fA, fB, fC, fI] at C
    go_enter Tryz.func86, Tryz.ntmps86
    go_wp2_with (first
      | (go_at_call 71; (with_reducible refine (C.out _).mono ?_); rintro _ _ ⟨rfl, rfl⟩)
      | (go_at_call 80; (with_reducible refine (W.out _ _ _ _).mono ?_); rintro _ _ ⟨rfl, rfl⟩))
    all_goals
      go_ret
      refine ⟨ret_bool2 ?_, BB⟩
      unfold regs
      rw [H.out]
      first | rfl | (simp_all [fD, fA, fB, fC, fI]; done)

end Go.Proofs.YtnhnbblplnhmlaaGreatDoor
