/- The walk of ImageCopies. -/
import Derived.Test.YtlnbkahpklnfaaaI15
import Derived.Test.YtlnbkahpklnfaaaI16
import Derived.Test.YtlnbkahpklnfaaaIW
namespace Go.Proofs.Ytlnbkahpklnfaaa
open Go.RowKit Go.Sort

section
variable {P : Program} {ops : Array Oper}

/-- A region that draws its order, all of whose orders end in states of one class F. -/
theorem wp_region_treeF {id : Nat} {Q : Exit → Act → World → Prop} {a : Act} {w : World} {l : List Oper} (F : Act → Act → World → Prop) (C : World → Prop) (t : Tr) (hm : P.follows .mixedOrders = true)
    (hB : (Region.noSelect l.toArray && treeB .any l.toArray l.length t (Array.replicate l.length false)) = true) (hC : ∀ W, Below w.heap.size w W → C W)
    (h : ∀ W, Below w.heap.size w W → wpTr P l.toArray (NoPanic fun x a' W' => x = .normal ∧ F a a' W') C t a W) (rest : ∀ a' W', F a a' W' → Q .normal a' W') : (Code.region id l.toArray true).wp P Q a w :=
  Code.wp_mono (fun e a' W' k => by obtain ⟨rfl, hF⟩ := k; exact rest a' W' hF) (wp_region_treeC C t hm hB hC h)
end

/-- Another block than the row's has changed. -/
theorem Own.apart {W V : World} {base b n c : Nat} {e : TypeId} {k : IntKind} {A : Option Addr} {l : List Int} (h : Own W base e k A n c l) (hg : W.grownBy V (some b)) (hne : ∀ g, A = some ⟨g, 0, none⟩ → g ≠ b) : Own V base e k A n c l := by
  refine ⟨h.1.kept hg ?_, h.2.1, Nat.le_trans h.2.2 hg.size⟩
  rcases h.1.2 with ⟨hv, _⟩ | ⟨g, cap, cur, hv, _⟩
  · simp only [Value.slice.injEq] at hv
    obtain ⟨rfl, rfl, rfl⟩ := hv
    exact .inr (fun e => by simp [Value.ownBlock] at e)
  · simp only [Value.slice.injEq] at hv
    obtain ⟨rfl, _, rfl⟩ := hv
    exact .inr (fun e => hne g rfl (by simpa [Value.ownBlock] using e))

set_option maxRecDepth 100000 in
set_option maxHeartbeats 8000000 in
theorem copies_walk (f wd ht f2 wd2 ht2 : Int) (A A2 : Option Addr) (n c n2 c2 : Nat) (l l2 : List Int) (dx dy sx sy a b : Int) (w : World) (R : Rd w w.heap.size .u8 A n l) (R2 : Rd w w.heap.size .u8 A2 n2 l2) (_hc : n ≤ c) (hc2 : n2 ≤ c2) (hn : n ≤ 140737488351232) (hn2 : n2 ≤ 140737488351232) (rng : (-9223372036854775808 ≤ dx ∧ dx ≤ 9223372036854775807) ∧ (-9223372036854775808 ≤ dy ∧ dy ≤ 9223372036854775807) ∧ (-9223372036854775808 ≤ sx ∧ sx ≤ 9223372036854775807) ∧ (-9223372036854775808 ≤ sy ∧ sy ≤ 9223372036854775807) ∧ (-9223372036854775808 ≤ a ∧ a ≤ 9223372036854775807) ∧ (-9223372036854775808 ≤ b ∧ b ≤ 9223372036854775807)) :
    Calls Try.prog 4 #[.agg #[.int .i64 f, .int .i64 wd, .int .i64 ht, .slice A n c], .agg #[.int .i64 f2, .int .i64 wd2, .int .i64 ht2, .slice A2 n2 c2], .agg #[.int .i64 dx, .int .i64 dy, .int .i64 sx, .int .i64 sy, .int .i64 a, .int .i64 b]] w fun e w' => e = .returned (.bool true) ∧ Below w.heap.size w w' := by
  have z1 : (w.alloc (.cells #[.int .i64 f, .int .i64 wd, .int .i64 ht, .slice A n c] 25)).heap.size = w.heap.size + 1 := by simp
  have z2 : ((w.alloc (.cells #[.int .i64 f, .int .i64 wd, .int .i64 ht, .slice A n c] 25)).alloc (.cells #[.int .i64 f2, .int .i64 wd2, .int .i64 ht2, .slice A2 n2 c2] 25)).heap.size = w.heap.size + 2 := by simp
  have b0 := box_below w #[.int .i64 f, .int .i64 wd, .int .i64 ht, .slice A n c] 25
  have b1 := box_below (w.alloc (.cells #[.int .i64 f, .int .i64 wd, .int .i64 ht, .slice A n c] 25)) #[.int .i64 f2, .int .i64 wd2, .int .i64 ht2, .slice A2 n2 c2] 25
  have b2 := box_below ((w.alloc (.cells #[.int .i64 f, .int .i64 wd, .int .i64 ht, .slice A n c] 25)).alloc (.cells #[.int .i64 f2, .int .i64 wd2, .int .i64 ht2, .slice A2 n2 c2] 25)) #[.int .i64 dx, .int .i64 dy, .int .i64 sx, .int .i64 sy, .int .i64 a, .int .i64 b] 38
  have D0 := (((IBox.made w f wd ht A n c 25).on b1).on b2).1
  have D1 := ((IBox.made (w.alloc (.cells #[.int .i64 f, .int .i64 wd, .int .i64 ht, .slice A n c] 25)) f2 wd2 ht2 A2 n2 c2 25).on b2).1
  rw [z1] at D1
  have r0 : (((w.alloc (.cells #[.int .i64 f, .int .i64 wd, .int .i64 ht, .slice A n c] 25)).alloc (.cells #[.int .i64 f2, .int .i64 wd2, .int .i64 ht2, .slice A2 n2 c2] 25)).alloc (.cells #[.int .i64 dx, .int .i64 dy, .int .i64 sx, .int .i64 sy, .int .i64 a, .int .i64 b] 38)).cell? ⟨w.heap.size + 2, 0, none⟩ = some (.int .i64 dx) := by rw [← z2]; exact box_cell _ _ _ 0 _ rfl
  have r1 : (((w.alloc (.cells #[.int .i64 f, .int .i64 wd, .int .i64 ht, .slice A n c] 25)).alloc (.cells #[.int .i64 f2, .int .i64 wd2, .int .i64 ht2, .slice A2 n2 c2] 25)).alloc (.cells #[.int .i64 dx, .int .i64 dy, .int .i64 sx, .int .i64 sy, .int .i64 a, .int .i64 b] 38)).cell? ⟨w.heap.size + 2, 1, none⟩ = some (.int .i64 dy) := by rw [← z2]; exact box_cell _ _ _ 1 _ rfl
  have r2 : (((w.alloc (.cells #[.int .i64 f, .int .i64 wd, .int .i64 ht, .slice A n c] 25)).alloc (.cells #[.int .i64 f2, .int .i64 wd2, .int .i64 ht2, .slice A2 n2 c2] 25)).alloc (.cells #[.int .i64 dx, .int .i64 dy, .int .i64 sx, .int .i64 sy, .int .i64 a, .int .i64 b] 38)).cell? ⟨w.heap.size + 2, 2, none⟩ = some (.int .i64 sx) := by rw [← z2]; exact box_cell _ _ _ 2 _ rfl
  have r3 : (((w.alloc (.cells #[.int .i64 f, .int .i64 wd, .int .i64 ht, .slice A n c] 25)).alloc (.cells #[.int .i64 f2, .int .i64 wd2, .int .i64 ht2, .slice A2 n2 c2] 25)).alloc (.cells #[.int .i64 dx, .int .i64 dy, .int .i64 sx, .int .i64 sy, .int .i64 a, .int .i64 b] 38)).cell? ⟨w.heap.size + 2, 3, none⟩ = some (.int .i64 sy) := by rw [← z2]; exact box_cell _ _ _ 3 _ rfl
  have r4 : (((w.alloc (.cells #[.int .i64 f, .int .i64 wd, .int .i64 ht, .slice A n c] 25)).alloc (.cells #[.int .i64 f2, .int .i64 wd2, .int .i64 ht2, .slice A2 n2 c2] 25)).alloc (.cells #[.int .i64 dx, .int .i64 dy, .int .i64 sx, .int .i64 sy, .int .i64 a, .int .i64 b] 38)).cell? ⟨w.heap.size + 2, 4, none⟩ = some (.int .i64 a) := by rw [← z2]; exact box_cell _ _ _ 4 _ rfl
  have r5 : (((w.alloc (.cells #[.int .i64 f, .int .i64 wd, .int .i64 ht, .slice A n c] 25)).alloc (.cells #[.int .i64 f2, .int .i64 wd2, .int .i64 ht2, .slice A2 n2 c2] 25)).alloc (.cells #[.int .i64 dx, .int .i64 dy, .int .i64 sx, .int .i64 sy, .int .i64 a, .int .i64 b] 38)).cell? ⟨w.heap.size + 2, 5, none⟩ = some (.int .i64 b) := by rw [← z2]; exact box_cell _ _ _ 5 _ rfl
  have BB := bon (bon b0 b1) b2
  clear b0 b1 b2 z1 z2
  have cc := fun W R R2 => pcopy_b f wd ht f2 wd2 ht2 A A2 n c n2 c2 l l2 dx dy sx sy a b W R R2 hc2 rng
  have cr := fun A c A2 c2 W R R2 hc2 => ricopy_b f wd ht f2 wd2 ht2 A A2 n c n2 c2 l l2 dx dy sx sy a b W R R2 hn hc2 rng
  obtain ⟨m, hm⟩ : ∃ m, cpI ⟨f, wd, ht, l⟩ ⟨f2, wd2, ht2, l2⟩ dx dy sx sy a b = m := ⟨_, rfl⟩
  rw [hm] at cc
  simp only [hm] at cr
  obtain ⟨⟨mf, mw, mh, ml⟩, me⟩ := m
  unfold GivesIE at cc cr
  simp only at cc cr
  have CC := Lib.hid cc
  have CR := Lib.hid cr
  have CA := Lib.hid (fun W R => riclone_b f wd ht A n c l W R hn)
  have CB := Lib.hid (fun W R => riclone_b f2 wd2 ht2 A2 n2 c2 l2 W R hn2)
  unfold GivesIO at CA CB
  simp only at CA CB
  have HR := Lib.hid R
  have HR2 := Lib.hid R2
  clear cc cr hm R R2 rng
  go_enter Try.func4, Try.ntmps4
  go_wp2_with fail
  refine wp_region_treeF (fun a0 a' W => ∃ (b4 b5 : Nat) (A8 : Option Addr) (c8 : Nat) (A9 : Option Addr) (c9 : Nat), a' = ((((((a0.put (some 13) (.agg #[.int .i64 f, .int .i64 wd, .int .i64 ht, .slice A n c])).put (some 14) (.agg #[.int .i64 f, .int .i64 wd, .int .i64 ht, .slice A8 n c8])).put (some 15) (.agg #[.int .i64 f2, .int .i64 wd2, .int .i64 ht2, .slice A2 n2 c2])).put (some 16) (.agg #[.int .i64 f2, .int .i64 wd2, .int .i64 ht2, .slice A9 n2 c9])).put (some 7) (.pointer (some ⟨b4, 0, none⟩))).put (some 8) (.pointer (some ⟨b5, 0, none⟩))) ∧ IAt W w.heap.size f wd ht A n c ∧ IAt W (w.heap.size + 1) f2 wd2 ht2 A2 n2 c2 ∧ IAt W b4 f wd ht A8 n c8 ∧ IAt W b5 f2 wd2 ht2 A9 n2 c9 ∧ W.cell? ⟨w.heap.size + 2, 0, none⟩ = some (.int .i64 dx) ∧ W.cell? ⟨w.heap.size + 2, 1, none⟩ = some (.int .i64 dy) ∧ W.cell? ⟨w.heap.size + 2, 2, none⟩ = some (.int .i64 sx) ∧ W.cell? ⟨w.heap.size + 2, 3, none⟩ = some (.int .i64 sy) ∧ W.cell? ⟨w.heap.size + 2, 4, none⟩ = some (.int .i64 a) ∧ W.cell? ⟨w.heap.size + 2, 5, none⟩ = some (.int .i64 b) ∧ Rd W W.heap.size .u8 A8 n l ∧ Rd W W.heap.size .u8 A9 n2 l2 ∧ n2 ≤ c9 ∧ Below w.heap.size w W) (fun W => IAt W w.heap.size f wd ht A n c ∧ IAt W (w.heap.size + 1) f2 wd2 ht2 A2 n2 c2) (.read 0 (.read 2 (.fork3 1 (.fork3 3 (.fork2 4 (.fork1 5 (.fork1 6 (.fork1 7 .nil))) 5 (.fork1 4 (.fork1 6 (.fork1 7 .nil)))) 4 (.fork2 3 (.fork1 5 (.fork1 6 (.fork1 7 .nil))) 5 (.fork1 3 (.fork1 6 (.fork1 7 .nil)))) 5 (.fork2 3 (.fork1 4 (.fork1 6 (.fork1 7 .nil))) 4 (.fork1 3 (.fork1 6 (.fork1 7 .nil))))) 4 (.fork2 1 (.fork2 3 (.fork1 5 (.fork1 6 (.fork1 7 .nil))) 5 (.fork1 3 (.fork1 6 (.fork1 7 .nil)))) 5 (.fork1 1 (.fork1 3 (.fork1 6 (.fork1 7 .nil))))) 5 (.fork2 1 (.fork2 3 (.fork1 4 (.fork1 6 (.fork1 7 .nil))) 4 (.fork1 3 (.fork1 6 (.fork1 7 .nil)))) 4 (.fork1 1 (.fork1 3 (.fork1 6 (.fork1 7 .nil)))))))) (by kernel_rfl) (by kernel_rfl) (fun W hB => ⟨D0.on hB, D1.on hB⟩) ?_ ?_
  · intro V0 B
    replace D0 := IAt.on D0 B; replace D1 := IAt.on D1 B; replace r0 := cell_below B r0; replace r1 := cell_below B r1; replace r2 := cell_below B r2; replace r3 := cell_below B r3; replace r4 := cell_below B r4; replace r5 := cell_below B r5; replace BB := bon BB B
    clear B
    refine tree_read rfl ?_
    refine wpQuiet_step (fun K hK => ?_)
    rw [if_pos (by rfl)]
    refine quiet_iload _ _ rfl imgT (fun W hW => hW.1) rfl ?_
    go_simp
    refine hK _ ?_
    clear hK K
    refine wpQuiet_nil ?_
    refine tree_read rfl ?_
    refine wpQuiet_step (fun K hK => ?_)
    rw [if_pos (by rfl)]
    refine quiet_iload _ _ rfl imgT (fun W hW => hW.2) rfl ?_
    go_simp
    refine hK _ ?_
    clear hK K
    refine wpQuiet_nil ?_
    refine tree_three rfl rfl rfl ?_ ?_ ?_
    · go_wp2_with (go_at_call 10; (with_reducible refine (CA.out _ ((HR.out.below BB).more BB.size)).mono ?_); rintro _ V1 ⟨A8, n8, c8, rfl, O8, B⟩; obtain rfl : n = n8 := (by have h1 := O8.len; have h2 := HR.out.len; omega); replace D0 := IAt.on D0 B; replace D1 := IAt.on D1 B; replace r0 := cell_below B r0; replace r1 := cell_below B r1; replace r2 := cell_below B r2; replace r3 := cell_below B r3; replace r4 := cell_below B r4; replace r5 := cell_below B r5; replace BB := bon BB B; clear B)
      refine ⟨⟨D0, D1⟩, ?_⟩
      refine tree_three rfl rfl rfl ?_ ?_ ?_
      · go_wp2_with (go_at_call 10; (with_reducible refine (CB.out _ ((HR2.out.below BB).more BB.size)).mono ?_); rintro _ V2 ⟨A9, n9, c9, rfl, O9, B⟩; obtain rfl : n2 = n9 := (by have h1 := O9.len; have h2 := HR2.out.len; omega); replace D0 := IAt.on D0 B; replace D1 := IAt.on D1 B; replace r0 := cell_below B r0; replace r1 := cell_below B r1; replace r2 := cell_below B r2; replace r3 := cell_below B r3; replace r4 := cell_below B r4; replace r5 := cell_below B r5; replace BB := bon BB B; replace O8 := O8.on B; clear B)
        refine ⟨⟨D0, D1⟩, ?_⟩
        refine tree_two rfl rfl ?_ ?_
        · go_wp2_with fail
          have rz := r0
          have bx := box_below V2 #[.int .i64 0, .int .i64 0, .int .i64 0, .slice none 0 0] 25
          have N84 : ∀ g, A8 = some ⟨g, 0, none⟩ → g ≠ V2.heap.size := fun g e => by subst e; have h1 := O8.lt; omega
          have N94 : ∀ g, A9 = some ⟨g, 0, none⟩ → g ≠ V2.heap.size := fun g e => by subst e; have h1 := O9.lt; omega
          replace D0 := IAt.on D0 bx
          replace D1 := IAt.on D1 bx
          replace r0 := cell_below bx r0
          replace r1 := cell_below bx r1
          replace r2 := cell_below bx r2
          replace r3 := cell_below bx r3
          replace r4 := cell_below bx r4
          replace r5 := cell_below bx r5
          replace BB := bon BB bx
          replace O8 := O8.on bx
          replace O9 := O9.on bx
          have E4 := IBox.made V2 0 0 0 none 0 0 25
          have G4 : w.heap.size + 2 < V2.heap.size := block_lt_of_cell rz
          refine ⟨⟨D0, D1⟩, ?_⟩
          refine tree_letter (S := fun X => IAt X w.heap.size f wd ht A n c ∧ IAt X (w.heap.size + 1) f2 wd2 ht2 A2 n2 c2 ∧ X.cell? ⟨w.heap.size + 2, 0, none⟩ = some (.int .i64 dx) ∧ X.cell? ⟨w.heap.size + 2, 1, none⟩ = some (.int .i64 dy) ∧ X.cell? ⟨w.heap.size + 2, 2, none⟩ = some (.int .i64 sx) ∧ X.cell? ⟨w.heap.size + 2, 3, none⟩ = some (.int .i64 sy) ∧ X.cell? ⟨w.heap.size + 2, 4, none⟩ = some (.int .i64 a) ∧ X.cell? ⟨w.heap.size + 2, 5, none⟩ = some (.int .i64 b) ∧ Below w.heap.size w X ∧ IBox X V2.heap.size 0 0 0 none 0 0 ∧ Own X V0.heap.size 5 .u8 A8 n c8 l ∧ Own X V1.heap.size 5 .u8 A9 n2 c9 l2) ?_ ⟨D0, D1, r0, r1, r2, r3, r4, r5, BB, E4, O8, O9⟩
          clear rz bx D0 D1 r0 r1 r2 r3 r4 r5 BB E4 O8 O9
          rintro V3 ⟨D0, D1, r0, r1, r2, r3, r4, r5, BB, E4, O8, O9⟩
          refine tree_one rfl ?_
          go_wp2_with fail
          have rz := r0
          have E4z := E4.lt
          have bx := box_below V3 #[.int .i64 0, .int .i64 0, .int .i64 0, .slice none 0 0] 25
          have N85 : ∀ g, A8 = some ⟨g, 0, none⟩ → g ≠ V3.heap.size := fun g e => by subst e; have h1 := O8.lt; omega
          have N95 : ∀ g, A9 = some ⟨g, 0, none⟩ → g ≠ V3.heap.size := fun g e => by subst e; have h1 := O9.lt; omega
          replace D0 := IAt.on D0 bx
          replace D1 := IAt.on D1 bx
          replace r0 := cell_below bx r0
          replace r1 := cell_below bx r1
          replace r2 := cell_below bx r2
          replace r3 := cell_below bx r3
          replace r4 := cell_below bx r4
          replace r5 := cell_below bx r5
          replace BB := bon BB bx
          replace E4 := E4.on bx
          replace O8 := O8.on bx
          replace O9 := O9.on bx
          have E5 := IBox.made V3 0 0 0 none 0 0 25
          have G5 : w.heap.size + 2 < V3.heap.size := block_lt_of_cell rz
          have N45 : V2.heap.size ≠ V3.heap.size := by have h1 := E4z; omega
          refine ⟨⟨D0, D1⟩, ?_⟩
          refine tree_letter (S := fun X => IAt X w.heap.size f wd ht A n c ∧ IAt X (w.heap.size + 1) f2 wd2 ht2 A2 n2 c2 ∧ X.cell? ⟨w.heap.size + 2, 0, none⟩ = some (.int .i64 dx) ∧ X.cell? ⟨w.heap.size + 2, 1, none⟩ = some (.int .i64 dy) ∧ X.cell? ⟨w.heap.size + 2, 2, none⟩ = some (.int .i64 sx) ∧ X.cell? ⟨w.heap.size + 2, 3, none⟩ = some (.int .i64 sy) ∧ X.cell? ⟨w.heap.size + 2, 4, none⟩ = some (.int .i64 a) ∧ X.cell? ⟨w.heap.size + 2, 5, none⟩ = some (.int .i64 b) ∧ Below w.heap.size w X ∧ IBox X V2.heap.size 0 0 0 none 0 0 ∧ IBox X V3.heap.size 0 0 0 none 0 0 ∧ Own X V0.heap.size 5 .u8 A8 n c8 l ∧ Own X V1.heap.size 5 .u8 A9 n2 c9 l2) ?_ ⟨D0, D1, r0, r1, r2, r3, r4, r5, BB, E4, E5, O8, O9⟩
          clear rz bx D0 D1 r0 r1 r2 r3 r4 r5 BB E4 E5 O8 O9
          rintro V4 ⟨D0, D1, r0, r1, r2, r3, r4, r5, BB, E4, E5, O8, O9⟩
          refine tree_one rfl ?_
          go_wp2_with (refine wpList_iset rfl _ _ _ rfl rfl rfl E4 (by kernel_rfl) ?_; intro V5 B E4' hg hz)
          replace D0 := D0.below (by omega) B
          replace D1 := D1.below (by omega) B
          replace r0 := (B.cell (p := ⟨w.heap.size + 2, 0, none⟩) G4).trans r0
          replace r1 := (B.cell (p := ⟨w.heap.size + 2, 1, none⟩) G4).trans r1
          replace r2 := (B.cell (p := ⟨w.heap.size + 2, 2, none⟩) G4).trans r2
          replace r3 := (B.cell (p := ⟨w.heap.size + 2, 3, none⟩) G4).trans r3
          replace r4 := (B.cell (p := ⟨w.heap.size + 2, 4, none⟩) G4).trans r4
          replace r5 := (B.cell (p := ⟨w.heap.size + 2, 5, none⟩) G4).trans r5
          replace BB := BB.trans (B.mono (by omega))
          replace E5 := E5.past hg N45.symm
          replace O8 := O8.apart hg N84
          replace O9 := O9.apart hg N94
          clear E4
          have E4 := E4'
          clear E4' hg hz B
          refine ⟨⟨D0, D1⟩, ?_⟩
          refine tree_one rfl ?_
          go_wp2_with (refine wpList_iset rfl _ _ _ rfl rfl rfl E5 (by kernel_rfl) ?_; intro V6 B E5' hg hz)
          replace D0 := D0.below (by omega) B
          replace D1 := D1.below (by omega) B
          replace r0 := (B.cell (p := ⟨w.heap.size + 2, 0, none⟩) G5).trans r0
          replace r1 := (B.cell (p := ⟨w.heap.size + 2, 1, none⟩) G5).trans r1
          replace r2 := (B.cell (p := ⟨w.heap.size + 2, 2, none⟩) G5).trans r2
          replace r3 := (B.cell (p := ⟨w.heap.size + 2, 3, none⟩) G5).trans r3
          replace r4 := (B.cell (p := ⟨w.heap.size + 2, 4, none⟩) G5).trans r4
          replace r5 := (B.cell (p := ⟨w.heap.size + 2, 5, none⟩) G5).trans r5
          replace BB := BB.trans (B.mono (by omega))
          replace E4 := E4.past hg N45
          replace O8 := O8.apart hg N85
          replace O9 := O9.apart hg N95
          clear E5
          have E5 := E5'
          clear E5' hg hz B
          refine ⟨⟨D0, D1⟩, ?_⟩
          exact tree_nil ⟨rfl, V2.heap.size, V3.heap.size, A8, c8, A9, c9, rfl, D0, D1, E4.1, E5.1, r0, r1, r2, r3, r4, r5, O8.rd, O9.rd, O9.room, BB⟩
        · go_wp2_with fail
          have rz := r0
          have bx := box_below V2 #[.int .i64 0, .int .i64 0, .int .i64 0, .slice none 0 0] 25
          have N85 : ∀ g, A8 = some ⟨g, 0, none⟩ → g ≠ V2.heap.size := fun g e => by subst e; have h1 := O8.lt; omega
          have N95 : ∀ g, A9 = some ⟨g, 0, none⟩ → g ≠ V2.heap.size := fun g e => by subst e; have h1 := O9.lt; omega
          replace D0 := IAt.on D0 bx
          replace D1 := IAt.on D1 bx
          replace r0 := cell_below bx r0
          replace r1 := cell_below bx r1
          replace r2 := cell_below bx r2
          replace r3 := cell_below bx r3
          replace r4 := cell_below bx r4
          replace r5 := cell_below bx r5
          replace BB := bon BB bx
          replace O8 := O8.on bx
          replace O9 := O9.on bx
          have E5 := IBox.made V2 0 0 0 none 0 0 25
          have G5 : w.heap.size + 2 < V2.heap.size := block_lt_of_cell rz
          refine ⟨⟨D0, D1⟩, ?_⟩
          refine tree_letter (S := fun X => IAt X w.heap.size f wd ht A n c ∧ IAt X (w.heap.size + 1) f2 wd2 ht2 A2 n2 c2 ∧ X.cell? ⟨w.heap.size + 2, 0, none⟩ = some (.int .i64 dx) ∧ X.cell? ⟨w.heap.size + 2, 1, none⟩ = some (.int .i64 dy) ∧ X.cell? ⟨w.heap.size + 2, 2, none⟩ = some (.int .i64 sx) ∧ X.cell? ⟨w.heap.size + 2, 3, none⟩ = some (.int .i64 sy) ∧ X.cell? ⟨w.heap.size + 2, 4, none⟩ = some (.int .i64 a) ∧ X.cell? ⟨w.heap.size + 2, 5, none⟩ = some (.int .i64 b) ∧ Below w.heap.size w X ∧ IBox X V2.heap.size 0 0 0 none 0 0 ∧ Own X V0.heap.size 5 .u8 A8 n c8 l ∧ Own X V1.heap.size 5 .u8 A9 n2 c9 l2) ?_ ⟨D0, D1, r0, r1, r2, r3, r4, r5, BB, E5, O8, O9⟩
          clear rz bx D0 D1 r0 r1 r2 r3 r4 r5 BB E5 O8 O9
          rintro V7 ⟨D0, D1, r0, r1, r2, r3, r4, r5, BB, E5, O8, O9⟩
          refine tree_one rfl ?_
          go_wp2_with fail
          have rz := r0
          have E5z := E5.lt
          have bx := box_below V7 #[.int .i64 0, .int .i64 0, .int .i64 0, .slice none 0 0] 25
          have N84 : ∀ g, A8 = some ⟨g, 0, none⟩ → g ≠ V7.heap.size := fun g e => by subst e; have h1 := O8.lt; omega
          have N94 : ∀ g, A9 = some ⟨g, 0, none⟩ → g ≠ V7.heap.size := fun g e => by subst e; have h1 := O9.lt; omega
          replace D0 := IAt.on D0 bx
          replace D1 := IAt.on D1 bx
          replace r0 := cell_below bx r0
          replace r1 := cell_below bx r1
          replace r2 := cell_below bx r2
          replace r3 := cell_below bx r3
          replace r4 := cell_below bx r4
          replace r5 := cell_below bx r5
          replace BB := bon BB bx
          replace E5 := E5.on bx
          replace O8 := O8.on bx
          replace O9 := O9.on bx
          have E4 := IBox.made V7 0 0 0 none 0 0 25
          have G4 : w.heap.size + 2 < V7.heap.size := block_lt_of_cell rz
          have N45 : V7.heap.size ≠ V2.heap.size := by have h1 := E5z; omega
          refine ⟨⟨D0, D1⟩, ?_⟩
          refine tree_letter (S := fun X => IAt X w.heap.size f wd ht A n c ∧ IAt X (w.heap.size + 1) f2 wd2 ht2 A2 n2 c2 ∧ X.cell? ⟨w.heap.size + 2, 0, none⟩ = some (.int .i64 dx) ∧ X.cell? ⟨w.heap.size + 2, 1, none⟩ = some (.int .i64 dy) ∧ X.cell? ⟨w.heap.size + 2, 2, none⟩ = some (.int .i64 sx) ∧ X.cell? ⟨w.heap.size + 2, 3, none⟩ = some (.int .i64 sy) ∧ X.cell? ⟨w.heap.size + 2, 4, none⟩ = some (.int .i64 a) ∧ X.cell? ⟨w.heap.size + 2, 5, none⟩ = some (.int .i64 b) ∧ Below w.heap.size w X ∧ IBox X V7.heap.size 0 0 0 none 0 0 ∧ IBox X V2.heap.size 0 0 0 none 0 0 ∧ Own X V0.heap.size 5 .u8 A8 n c8 l ∧ Own X V1.heap.size 5 .u8 A9 n2 c9 l2) ?_ ⟨D0, D1, r0, r1, r2, r3, r4, r5, BB, E4, E5, O8, O9⟩
          clear rz bx D0 D1 r0 r1 r2 r3 r4 r5 BB E4 E5 O8 O9
          rintro V8 ⟨D0, D1, r0, r1, r2, r3, r4, r5, BB, E4, E5, O8, O9⟩
          refine tree_one rfl ?_
          go_wp2_with (refine wpList_iset rfl _ _ _ rfl rfl rfl E4 (by kernel_rfl) ?_; intro V9 B E4' hg hz)
          replace D0 := D0.below (by omega) B
          replace D1 := D1.below (by omega) B
          replace r0 := (B.cell (p := ⟨w.heap.size + 2, 0, none⟩) G4).trans r0
          replace r1 := (B.cell (p := ⟨w.heap.size + 2, 1, none⟩) G4).trans r1
          replace r2 := (B.cell (p := ⟨w.heap.size + 2, 2, none⟩) G4).trans r2
          replace r3 := (B.cell (p := ⟨w.heap.size + 2, 3, none⟩) G4).trans r3
          replace r4 := (B.cell (p := ⟨w.heap.size + 2, 4, none⟩) G4).trans r4
          replace r5 := (B.cell (p := ⟨w.heap.size + 2, 5, none⟩) G4).trans r5
          replace BB := BB.trans (B.mono (by omega))
          replace E5 := E5.past hg N45.symm
          replace O8 := O8.apart hg N84
          replace O9 := O9.apart hg N94
          clear E4
          have E4 := E4'
          clear E4' hg hz B
          refine ⟨⟨D0, D1⟩, ?_⟩
          refine tree_one rfl ?_
          go_wp2_with (refine wpList_iset rfl _ _ _ rfl rfl rfl E5 (by kernel_rfl) ?_; intro V10 B E5' hg hz)
          replace D0 := D0.below (by omega) B
          replace D1 := D1.below (by omega) B
          replace r0 := (B.cell (p := ⟨w.heap.size + 2, 0, none⟩) G5).trans r0
          replace r1 := (B.cell (p := ⟨w.heap.size + 2, 1, none⟩) G5).trans r1
          replace r2 := (B.cell (p := ⟨w.heap.size + 2, 2, none⟩) G5).trans r2
          replace r3 := (B.cell (p := ⟨w.heap.size + 2, 3, none⟩) G5).trans r3
          replace r4 := (B.cell (p := ⟨w.heap.size + 2, 4, none⟩) G5).trans r4
          replace r5 := (B.cell (p := ⟨w.heap.size + 2, 5, none⟩) G5).trans r5
          replace BB := BB.trans (B.mono (by omega))
          replace E4 := E4.past hg N45
          replace O8 := O8.apart hg N85
          replace O9 := O9.apart hg N95
          clear E5
          have E5 := E5'
          clear E5' hg hz B
          refine ⟨⟨D0, D1⟩, ?_⟩
          exact tree_nil ⟨rfl, V7.heap.size, V2.heap.size, A8, c8, A9, c9, rfl, D0, D1, E4.1, E5.1, r0, r1, r2, r3, r4, r5, O8.rd, O9.rd, O9.room, BB⟩
      · go_wp2_with fail
        have rz := r0
        have bx := box_below V1 #[.int .i64 0, .int .i64 0, .int .i64 0, .slice none 0 0] 25
        have N84 : ∀ g, A8 = some ⟨g, 0, none⟩ → g ≠ V1.heap.size := fun g e => by subst e; have h1 := O8.lt; omega
        replace D0 := IAt.on D0 bx
        replace D1 := IAt.on D1 bx
        replace r0 := cell_below bx r0
        replace r1 := cell_below bx r1
        replace r2 := cell_below bx r2
        replace r3 := cell_below bx r3
        replace r4 := cell_below bx r4
        replace r5 := cell_below bx r5
        replace BB := bon BB bx
        replace O8 := O8.on bx
        have E4 := IBox.made V1 0 0 0 none 0 0 25
        have G4 : w.heap.size + 2 < V1.heap.size := block_lt_of_cell rz
        refine ⟨⟨D0, D1⟩, ?_⟩
        refine tree_letter (S := fun X => IAt X w.heap.size f wd ht A n c ∧ IAt X (w.heap.size + 1) f2 wd2 ht2 A2 n2 c2 ∧ X.cell? ⟨w.heap.size + 2, 0, none⟩ = some (.int .i64 dx) ∧ X.cell? ⟨w.heap.size + 2, 1, none⟩ = some (.int .i64 dy) ∧ X.cell? ⟨w.heap.size + 2, 2, none⟩ = some (.int .i64 sx) ∧ X.cell? ⟨w.heap.size + 2, 3, none⟩ = some (.int .i64 sy) ∧ X.cell? ⟨w.heap.size + 2, 4, none⟩ = some (.int .i64 a) ∧ X.cell? ⟨w.heap.size + 2, 5, none⟩ = some (.int .i64 b) ∧ Below w.heap.size w X ∧ IBox X V1.heap.size 0 0 0 none 0 0 ∧ Own X V0.heap.size 5 .u8 A8 n c8 l) ?_ ⟨D0, D1, r0, r1, r2, r3, r4, r5, BB, E4, O8⟩
        clear rz bx D0 D1 r0 r1 r2 r3 r4 r5 BB E4 O8
        rintro V11 ⟨D0, D1, r0, r1, r2, r3, r4, r5, BB, E4, O8⟩
        refine tree_two rfl rfl ?_ ?_
        · go_wp2_with (go_at_call 10; (with_reducible refine (CB.out _ ((HR2.out.below BB).more BB.size)).mono ?_); rintro _ V12 ⟨A9, n9, c9, rfl, O9, B⟩; obtain rfl : n2 = n9 := (by have h1 := O9.len; have h2 := HR2.out.len; omega); have N94 : ∀ g, A9 = some ⟨g, 0, none⟩ → g ≠ V1.heap.size := (fun g e => by subst e; have h1 : V11.heap.size ≤ g := (O9.1.lt _ rfl).1; have h2 := E4.lt; omega); replace D0 := IAt.on D0 B; replace D1 := IAt.on D1 B; replace r0 := cell_below B r0; replace r1 := cell_below B r1; replace r2 := cell_below B r2; replace r3 := cell_below B r3; replace r4 := cell_below B r4; replace r5 := cell_below B r5; replace BB := bon BB B; replace E4 := E4.on B; replace O8 := O8.on B; clear B)
          refine ⟨⟨D0, D1⟩, ?_⟩
          refine tree_one rfl ?_
          go_wp2_with fail
          have rz := r0
          have E4z := E4.lt
          have bx := box_below V12 #[.int .i64 0, .int .i64 0, .int .i64 0, .slice none 0 0] 25
          have N85 : ∀ g, A8 = some ⟨g, 0, none⟩ → g ≠ V12.heap.size := fun g e => by subst e; have h1 := O8.lt; omega
          have N95 : ∀ g, A9 = some ⟨g, 0, none⟩ → g ≠ V12.heap.size := fun g e => by subst e; have h1 := O9.lt; omega
          replace D0 := IAt.on D0 bx
          replace D1 := IAt.on D1 bx
          replace r0 := cell_below bx r0
          replace r1 := cell_below bx r1
          replace r2 := cell_below bx r2
          replace r3 := cell_below bx r3
          replace r4 := cell_below bx r4
          replace r5 := cell_below bx r5
          replace BB := bon BB bx
          replace E4 := E4.on bx
          replace O8 := O8.on bx
          replace O9 := O9.on bx
          have E5 := IBox.made V12 0 0 0 none 0 0 25
          have G5 : w.heap.size + 2 < V12.heap.size := block_lt_of_cell rz
          have N45 : V1.heap.size ≠ V12.heap.size := by have h1 := E4z; omega
          refine ⟨⟨D0, D1⟩, ?_⟩
          refine tree_letter (S := fun X => IAt X w.heap.size f wd ht A n c ∧ IAt X (w.heap.size + 1) f2 wd2 ht2 A2 n2 c2 ∧ X.cell? ⟨w.heap.size + 2, 0, none⟩ = some (.int .i64 dx) ∧ X.cell? ⟨w.heap.size + 2, 1, none⟩ = some (.int .i64 dy) ∧ X.cell? ⟨w.heap.size + 2, 2, none⟩ = some (.int .i64 sx) ∧ X.cell? ⟨w.heap.size + 2, 3, none⟩ = some (.int .i64 sy) ∧ X.cell? ⟨w.heap.size + 2, 4, none⟩ = some (.int .i64 a) ∧ X.cell? ⟨w.heap.size + 2, 5, none⟩ = some (.int .i64 b) ∧ Below w.heap.size w X ∧ IBox X V1.heap.size 0 0 0 none 0 0 ∧ IBox X V12.heap.size 0 0 0 none 0 0 ∧ Own X V0.heap.size 5 .u8 A8 n c8 l ∧ Own X V11.heap.size 5 .u8 A9 n2 c9 l2) ?_ ⟨D0, D1, r0, r1, r2, r3, r4, r5, BB, E4, E5, O8, O9⟩
          clear rz bx D0 D1 r0 r1 r2 r3 r4 r5 BB E4 E5 O8 O9
          rintro V13 ⟨D0, D1, r0, r1, r2, r3, r4, r5, BB, E4, E5, O8, O9⟩
          refine tree_one rfl ?_
          go_wp2_with (refine wpList_iset rfl _ _ _ rfl rfl rfl E4 (by kernel_rfl) ?_; intro V14 B E4' hg hz)
          replace D0 := D0.below (by omega) B
          replace D1 := D1.below (by omega) B
          replace r0 := (B.cell (p := ⟨w.heap.size + 2, 0, none⟩) G4).trans r0
          replace r1 := (B.cell (p := ⟨w.heap.size + 2, 1, none⟩) G4).trans r1
          replace r2 := (B.cell (p := ⟨w.heap.size + 2, 2, none⟩) G4).trans r2
          replace r3 := (B.cell (p := ⟨w.heap.size + 2, 3, none⟩) G4).trans r3
          replace r4 := (B.cell (p := ⟨w.heap.size + 2, 4, none⟩) G4).trans r4
          replace r5 := (B.cell (p := ⟨w.heap.size + 2, 5, none⟩) G4).trans r5
          replace BB := BB.trans (B.mono (by omega))
          replace E5 := E5.past hg N45.symm
          replace O8 := O8.apart hg N84
          replace O9 := O9.apart hg N94
          clear E4
          have E4 := E4'
          clear E4' hg hz B
          refine ⟨⟨D0, D1⟩, ?_⟩
          refine tree_one rfl ?_
          go_wp2_with (refine wpList_iset rfl _ _ _ rfl rfl rfl E5 (by kernel_rfl) ?_; intro V15 B E5' hg hz)
          replace D0 := D0.below (by omega) B
          replace D1 := D1.below (by omega) B
          replace r0 := (B.cell (p := ⟨w.heap.size + 2, 0, none⟩) G5).trans r0
          replace r1 := (B.cell (p := ⟨w.heap.size + 2, 1, none⟩) G5).trans r1
          replace r2 := (B.cell (p := ⟨w.heap.size + 2, 2, none⟩) G5).trans r2
          replace r3 := (B.cell (p := ⟨w.heap.size + 2, 3, none⟩) G5).trans r3
          replace r4 := (B.cell (p := ⟨w.heap.size + 2, 4, none⟩) G5).trans r4
          replace r5 := (B.cell (p := ⟨w.heap.size + 2, 5, none⟩) G5).trans r5
          replace BB := BB.trans (B.mono (by omega))
          replace E4 := E4.past hg N45
          replace O8 := O8.apart hg N85
          replace O9 := O9.apart hg N95
          clear E5
          have E5 := E5'
          clear E5' hg hz B
          refine ⟨⟨D0, D1⟩, ?_⟩
          exact tree_nil ⟨rfl, V1.heap.size, V12.heap.size, A8, c8, A9, c9, rfl, D0, D1, E4.1, E5.1, r0, r1, r2, r3, r4, r5, O8.rd, O9.rd, O9.room, BB⟩
        · go_wp2_with fail
          have rz := r0
          have E4z := E4.lt
          have bx := box_below V11 #[.int .i64 0, .int .i64 0, .int .i64 0, .slice none 0 0] 25
          have N85 : ∀ g, A8 = some ⟨g, 0, none⟩ → g ≠ V11.heap.size := fun g e => by subst e; have h1 := O8.lt; omega
          replace D0 := IAt.on D0 bx
          replace D1 := IAt.on D1 bx
          replace r0 := cell_below bx r0
          replace r1 := cell_below bx r1
          replace r2 := cell_below bx r2
          replace r3 := cell_below bx r3
          replace r4 := cell_below bx r4
          replace r5 := cell_below bx r5
          replace BB := bon BB bx
          replace E4 := E4.on bx
          replace O8 := O8.on bx
          have E5 := IBox.made V11 0 0 0 none 0 0 25
          have G5 : w.heap.size + 2 < V11.heap.size := block_lt_of_cell rz
          have N45 : V1.heap.size ≠ V11.heap.size := by have h1 := E4z; omega
          refine ⟨⟨D0, D1⟩, ?_⟩
          refine tree_letter (S := fun X => IAt X w.heap.size f wd ht A n c ∧ IAt X (w.heap.size + 1) f2 wd2 ht2 A2 n2 c2 ∧ X.cell? ⟨w.heap.size + 2, 0, none⟩ = some (.int .i64 dx) ∧ X.cell? ⟨w.heap.size + 2, 1, none⟩ = some (.int .i64 dy) ∧ X.cell? ⟨w.heap.size + 2, 2, none⟩ = some (.int .i64 sx) ∧ X.cell? ⟨w.heap.size + 2, 3, none⟩ = some (.int .i64 sy) ∧ X.cell? ⟨w.heap.size + 2, 4, none⟩ = some (.int .i64 a) ∧ X.cell? ⟨w.heap.size + 2, 5, none⟩ = some (.int .i64 b) ∧ Below w.heap.size w X ∧ IBox X V1.heap.size 0 0 0 none 0 0 ∧ IBox X V11.heap.size 0 0 0 none 0 0 ∧ Own X V0.heap.size 5 .u8 A8 n c8 l) ?_ ⟨D0, D1, r0, r1, r2, r3, r4, r5, BB, E4, E5, O8⟩
          clear rz bx D0 D1 r0 r1 r2 r3 r4 r5 BB E4 E5 O8
          rintro V16 ⟨D0, D1, r0, r1, r2, r3, r4, r5, BB, E4, E5, O8⟩
          refine tree_one rfl ?_
          go_wp2_with (go_at_call 10; (with_reducible refine (CB.out _ ((HR2.out.below BB).more BB.size)).mono ?_); rintro _ V17 ⟨A9, n9, c9, rfl, O9, B⟩; obtain rfl : n2 = n9 := (by have h1 := O9.len; have h2 := HR2.out.len; omega); have N94 : ∀ g, A9 = some ⟨g, 0, none⟩ → g ≠ V1.heap.size := (fun g e => by subst e; have h1 : V16.heap.size ≤ g := (O9.1.lt _ rfl).1; have h2 := E4.lt; omega); have N95 : ∀ g, A9 = some ⟨g, 0, none⟩ → g ≠ V11.heap.size := (fun g e => by subst e; have h1 : V16.heap.size ≤ g := (O9.1.lt _ rfl).1; have h2 := E5.lt; omega); replace D0 := IAt.on D0 B; replace D1 := IAt.on D1 B; replace r0 := cell_below B r0; replace r1 := cell_below B r1; replace r2 := cell_below B r2; replace r3 := cell_below B r3; replace r4 := cell_below B r4; replace r5 := cell_below B r5; replace BB := bon BB B; replace E4 := E4.on B; replace E5 := E5.on B; replace O8 := O8.on B; clear B)
          refine ⟨⟨D0, D1⟩, ?_⟩
          refine tree_one rfl ?_
          go_wp2_with (refine wpList_iset rfl _ _ _ rfl rfl rfl E4 (by kernel_rfl) ?_; intro V18 B E4' hg hz)
          replace D0 := D0.below (by omega) B
          replace D1 := D1.below (by omega) B
          replace r0 := (B.cell (p := ⟨w.heap.size + 2, 0, none⟩) G4).trans r0
          replace r1 := (B.cell (p := ⟨w.heap.size + 2, 1, none⟩) G4).trans r1
          replace r2 := (B.cell (p := ⟨w.heap.size + 2, 2, none⟩) G4).trans r2
          replace r3 := (B.cell (p := ⟨w.heap.size + 2, 3, none⟩) G4).trans r3
          replace r4 := (B.cell (p := ⟨w.heap.size + 2, 4, none⟩) G4).trans r4
          replace r5 := (B.cell (p := ⟨w.heap.size + 2, 5, none⟩) G4).trans r5
          replace BB := BB.trans (B.mono (by omega))
          replace E5 := E5.past hg N45.symm
          replace O8 := O8.apart hg N84
          replace O9 := O9.apart hg N94
          clear E4
          have E4 := E4'
          clear E4' hg hz B
          refine ⟨⟨D0, D1⟩, ?_⟩
          refine tree_one rfl ?_
          go_wp2_with (refine wpList_iset rfl _ _ _ rfl rfl rfl E5 (by kernel_rfl) ?_; intro V19 B E5' hg hz)
          replace D0 := D0.below (by omega) B
          replace D1 := D1.below (by omega) B
          replace r0 := (B.cell (p := ⟨w.heap.size + 2, 0, none⟩) G5).trans r0
          replace r1 := (B.cell (p := ⟨w.heap.size + 2, 1, none⟩) G5).trans r1
          replace r2 := (B.cell (p := ⟨w.heap.size + 2, 2, none⟩) G5).trans r2
          replace r3 := (B.cell (p := ⟨w.heap.size + 2, 3, none⟩) G5).trans r3
          replace r4 := (B.cell (p := ⟨w.heap.size + 2, 4, none⟩) G5).trans r4
          replace r5 := (B.cell (p := ⟨w.heap.size + 2, 5, none⟩) G5).trans r5
          replace BB := BB.trans (B.mono (by omega))
          replace E4 := E4.past hg N45
          replace O8 := O8.apart hg N85
          replace O9 := O9.apart hg N95
          clear E5
          have E5 := E5'
          clear E5' hg hz B
          refine ⟨⟨D0, D1⟩, ?_⟩
          exact tree_nil ⟨rfl, V1.heap.size, V11.heap.size, A8, c8, A9, c9, rfl, D0, D1, E4.1, E5.1, r0, r1, r2, r3, r4, r5, O8.rd, O9.rd, O9.room, BB⟩
      · go_wp2_with fail
        have rz := r0
        have bx := box_below V1 #[.int .i64 0, .int .i64 0, .int .i64 0, .slice none 0 0] 25
        have N85 : ∀ g, A8 = some ⟨g, 0, none⟩ → g ≠ V1.heap.size := fun g e => by subst e; have h1 := O8.lt; omega
        replace D0 := IAt.on D0 bx
        replace D1 := IAt.on D1 bx
        replace r0 := cell_below bx r0
        replace r1 := cell_below bx r1
        replace r2 := cell_below bx r2
        replace r3 := cell_below bx r3
        replace r4 := cell_below bx r4
        replace r5 := cell_below bx r5
        replace BB := bon BB bx
        replace O8 := O8.on bx
        have E5 := IBox.made V1 0 0 0 none 0 0 25
        have G5 : w.heap.size + 2 < V1.heap.size := block_lt_of_cell rz
        refine ⟨⟨D0, D1⟩, ?_⟩
        refine tree_letter (S := fun X => IAt X w.heap.size f wd ht A n c ∧ IAt X (w.heap.size + 1) f2 wd2 ht2 A2 n2 c2 ∧ X.cell? ⟨w.heap.size + 2, 0, none⟩ = some (.int .i64 dx) ∧ X.cell? ⟨w.heap.size + 2, 1, none⟩ = some (.int .i64 dy) ∧ X.cell? ⟨w.heap.size + 2, 2, none⟩ = some (.int .i64 sx) ∧ X.cell? ⟨w.heap.size + 2, 3, none⟩ = some (.int .i64 sy) ∧ X.cell? ⟨w.heap.size + 2, 4, none⟩ = some (.int .i64 a) ∧ X.cell? ⟨w.heap.size + 2, 5, none⟩ = some (.int .i64 b) ∧ Below w.heap.size w X ∧ IBox X V1.heap.size 0 0 0 none 0 0 ∧ Own X V0.heap.size 5 .u8 A8 n c8 l) ?_ ⟨D0, D1, r0, r1, r2, r3, r4, r5, BB, E5, O8⟩
        clear rz bx D0 D1 r0 r1 r2 r3 r4 r5 BB E5 O8
        rintro V20 ⟨D0, D1, r0, r1, r2, r3, r4, r5, BB, E5, O8⟩
        refine tree_two rfl rfl ?_ ?_
        · go_wp2_with (go_at_call 10; (with_reducible refine (CB.out _ ((HR2.out.below BB).more BB.size)).mono ?_); rintro _ V21 ⟨A9, n9, c9, rfl, O9, B⟩; obtain rfl : n2 = n9 := (by have h1 := O9.len; have h2 := HR2.out.len; omega); have N95 : ∀ g, A9 = some ⟨g, 0, none⟩ → g ≠ V1.heap.size := (fun g e => by subst e; have h1 : V20.heap.size ≤ g := (O9.1.lt _ rfl).1; have h2 := E5.lt; omega); replace D0 := IAt.on D0 B; replace D1 := IAt.on D1 B; replace r0 := cell_below B r0; replace r1 := cell_below B r1; replace r2 := cell_below B r2; replace r3 := cell_below B r3; replace r4 := cell_below B r4; replace r5 := cell_below B r5; replace BB := bon BB B; replace E5 := E5.on B; replace O8 := O8.on B; clear B)
          refine ⟨⟨D0, D1⟩, ?_⟩
          refine tree_one rfl ?_
          go_wp2_with fail
          have rz := r0
          have E5z := E5.lt
          have bx := box_below V21 #[.int .i64 0, .int .i64 0, .int .i64 0, .slice none 0 0] 25
          have N84 : ∀ g, A8 = some ⟨g, 0, none⟩ → g ≠ V21.heap.size := fun g e => by subst e; have h1 := O8.lt; omega
          have N94 : ∀ g, A9 = some ⟨g, 0, none⟩ → g ≠ V21.heap.size := fun g e => by subst e; have h1 := O9.lt; omega
          replace D0 := IAt.on D0 bx
          replace D1 := IAt.on D1 bx
          replace r0 := cell_below bx r0
          replace r1 := cell_below bx r1
          replace r2 := cell_below bx r2
          replace r3 := cell_below bx r3
          replace r4 := cell_below bx r4
          replace r5 := cell_below bx r5
          replace BB := bon BB bx
          replace E5 := E5.on bx
          replace O8 := O8.on bx
          replace O9 := O9.on bx
          have E4 := IBox.made V21 0 0 0 none 0 0 25
          have G4 : w.heap.size + 2 < V21.heap.size := block_lt_of_cell rz
          have N45 : V21.heap.size ≠ V1.heap.size := by have h1 := E5z; omega
          refine ⟨⟨D0, D1⟩, ?_⟩
          refine tree_letter (S := fun X => IAt X w.heap.size f wd ht A n c ∧ IAt X (w.heap.size + 1) f2 wd2 ht2 A2 n2 c2 ∧ X.cell? ⟨w.heap.size + 2, 0, none⟩ = some (.int .i64 dx) ∧ X.cell? ⟨w.heap.size + 2, 1, none⟩ = some (.int .i64 dy) ∧ X.cell? ⟨w.heap.size + 2, 2, none⟩ = some (.int .i64 sx) ∧ X.cell? ⟨w.heap.size + 2, 3, none⟩ = some (.int .i64 sy) ∧ X.cell? ⟨w.heap.size + 2, 4, none⟩ = some (.int .i64 a) ∧ X.cell? ⟨w.heap.size + 2, 5, none⟩ = some (.int .i64 b) ∧ Below w.heap.size w X ∧ IBox X V21.heap.size 0 0 0 none 0 0 ∧ IBox X V1.heap.size 0 0 0 none 0 0 ∧ Own X V0.heap.size 5 .u8 A8 n c8 l ∧ Own X V20.heap.size 5 .u8 A9 n2 c9 l2) ?_ ⟨D0, D1, r0, r1, r2, r3, r4, r5, BB, E4, E5, O8, O9⟩
          clear rz bx D0 D1 r0 r1 r2 r3 r4 r5 BB E4 E5 O8 O9
          rintro V22 ⟨D0, D1, r0, r1, r2, r3, r4, r5, BB, E4, E5, O8, O9⟩
          refine tree_one rfl ?_
          go_wp2_with (refine wpList_iset rfl _ _ _ rfl rfl rfl E4 (by kernel_rfl) ?_; intro V23 B E4' hg hz)
          replace D0 := D0.below (by omega) B
          replace D1 := D1.below (by omega) B
          replace r0 := (B.cell (p := ⟨w.heap.size + 2, 0, none⟩) G4).trans r0
          replace r1 := (B.cell (p := ⟨w.heap.size + 2, 1, none⟩) G4).trans r1
          replace r2 := (B.cell (p := ⟨w.heap.size + 2, 2, none⟩) G4).trans r2
          replace r3 := (B.cell (p := ⟨w.heap.size + 2, 3, none⟩) G4).trans r3
          replace r4 := (B.cell (p := ⟨w.heap.size + 2, 4, none⟩) G4).trans r4
          replace r5 := (B.cell (p := ⟨w.heap.size + 2, 5, none⟩) G4).trans r5
          replace BB := BB.trans (B.mono (by omega))
          replace E5 := E5.past hg N45.symm
          replace O8 := O8.apart hg N84
          replace O9 := O9.apart hg N94
          clear E4
          have E4 := E4'
          clear E4' hg hz B
          refine ⟨⟨D0, D1⟩, ?_⟩
          refine tree_one rfl ?_
          go_wp2_with (refine wpList_iset rfl _ _ _ rfl rfl rfl E5 (by kernel_rfl) ?_; intro V24 B E5' hg hz)
          replace D0 := D0.below (by omega) B
          replace D1 := D1.below (by omega) B
          replace r0 := (B.cell (p := ⟨w.heap.size + 2, 0, none⟩) G5).trans r0
          replace r1 := (B.cell (p := ⟨w.heap.size + 2, 1, none⟩) G5).trans r1
          replace r2 := (B.cell (p := ⟨w.heap.size + 2, 2, none⟩) G5).trans r2
          replace r3 := (B.cell (p := ⟨w.heap.size + 2, 3, none⟩) G5).trans r3
          replace r4 := (B.cell (p := ⟨w.heap.size + 2, 4, none⟩) G5).trans r4
          replace r5 := (B.cell (p := ⟨w.heap.size + 2, 5, none⟩) G5).trans r5
          replace BB := BB.trans (B.mono (by omega))
          replace E4 := E4.past hg N45
          replace O8 := O8.apart hg N85
          replace O9 := O9.apart hg N95
          clear E5
          have E5 := E5'
          clear E5' hg hz B
          refine ⟨⟨D0, D1⟩, ?_⟩
          exact tree_nil ⟨rfl, V21.heap.size, V1.heap.size, A8, c8, A9, c9, rfl, D0, D1, E4.1, E5.1, r0, r1, r2, r3, r4, r5, O8.rd, O9.rd, O9.room, BB⟩
        · go_wp2_with fail
          have rz := r0
          have E5z := E5.lt
          have bx := box_below V20 #[.int .i64 0, .int .i64 0, .int .i64 0, .slice none 0 0] 25
          have N84 : ∀ g, A8 = some ⟨g, 0, none⟩ → g ≠ V20.heap.size := fun g e => by subst e; have h1 := O8.lt; omega
          replace D0 := IAt.on D0 bx
          replace D1 := IAt.on D1 bx
          replace r0 := cell_below bx r0
          replace r1 := cell_below bx r1
          replace r2 := cell_below bx r2
          replace r3 := cell_below bx r3
          replace r4 := cell_below bx r4
          replace r5 := cell_below bx r5
          replace BB := bon BB bx
          replace E5 := E5.on bx
          replace O8 := O8.on bx
          have E4 := IBox.made V20 0 0 0 none 0 0 25
          have G4 : w.heap.size + 2 < V20.heap.size := block_lt_of_cell rz
          have N45 : V20.heap.size ≠ V1.heap.size := by have h1 := E5z; omega
          refine ⟨⟨D0, D1⟩, ?_⟩
          refine tree_letter (S := fun X => IAt X w.heap.size f wd ht A n c ∧ IAt X (w.heap.size + 1) f2 wd2 ht2 A2 n2 c2 ∧ X.cell? ⟨w.heap.size + 2, 0, none⟩ = some (.int .i64 dx) ∧ X.cell? ⟨w.heap.size + 2, 1, none⟩ = some (.int .i64 dy) ∧ X.cell? ⟨w.heap.size + 2, 2, none⟩ = some (.int .i64 sx) ∧ X.cell? ⟨w.heap.size + 2, 3, none⟩ = some (.int .i64 sy) ∧ X.cell? ⟨w.heap.size + 2, 4, none⟩ = some (.int .i64 a) ∧ X.cell? ⟨w.heap.size + 2, 5, none⟩ = some (.int .i64 b) ∧ Below w.heap.size w X ∧ IBox X V20.heap.size 0 0 0 none 0 0 ∧ IBox X V1.heap.size 0 0 0 none 0 0 ∧ Own X V0.heap.size 5 .u8 A8 n c8 l) ?_ ⟨D0, D1, r0, r1, r2, r3, r4, r5, BB, E4, E5, O8⟩
          clear rz bx D0 D1 r0 r1 r2 r3 r4 r5 BB E4 E5 O8
          rintro V25 ⟨D0, D1, r0, r1, r2, r3, r4, r5, BB, E4, E5, O8⟩
          refine tree_one rfl ?_
          go_wp2_with (go_at_call 10; (with_reducible refine (CB.out _ ((HR2.out.below BB).more BB.size)).mono ?_); rintro _ V26 ⟨A9, n9, c9, rfl, O9, B⟩; obtain rfl : n2 = n9 := (by have h1 := O9.len; have h2 := HR2.out.len; omega); have N94 : ∀ g, A9 = some ⟨g, 0, none⟩ → g ≠ V20.heap.size := (fun g e => by subst e; have h1 : V25.heap.size ≤ g := (O9.1.lt _ rfl).1; have h2 := E4.lt; omega); have N95 : ∀ g, A9 = some ⟨g, 0, none⟩ → g ≠ V1.heap.size := (fun g e => by subst e; have h1 : V25.heap.size ≤ g := (O9.1.lt _ rfl).1; have h2 := E5.lt; omega); replace D0 := IAt.on D0 B; replace D1 := IAt.on D1 B; replace r0 := cell_below B r0; replace r1 := cell_below B r1; replace r2 := cell_below B r2; replace r3 := cell_below B r3; replace r4 := cell_below B r4; replace r5 := cell_below B r5; replace BB := bon BB B; replace E4 := E4.on B; replace E5 := E5.on B; replace O8 := O8.on B; clear B)
          refine ⟨⟨D0, D1⟩, ?_⟩
          refine tree_one rfl ?_
          go_wp2_with (refine wpList_iset rfl _ _ _ rfl rfl rfl E4 (by kernel_rfl) ?_; intro V27 B E4' hg hz)
          replace D0 := D0.below (by omega) B
          replace D1 := D1.below (by omega) B
          replace r0 := (B.cell (p := ⟨w.heap.size + 2, 0, none⟩) G4).trans r0
          replace r1 := (B.cell (p := ⟨w.heap.size + 2, 1, none⟩) G4).trans r1
          replace r2 := (B.cell (p := ⟨w.heap.size + 2, 2, none⟩) G4).trans r2
          replace r3 := (B.cell (p := ⟨w.heap.size + 2, 3, none⟩) G4).trans r3
          replace r4 := (B.cell (p := ⟨w.heap.size + 2, 4, none⟩) G4).trans r4
          replace r5 := (B.cell (p := ⟨w.heap.size + 2, 5, none⟩) G4).trans r5
          replace BB := BB.trans (B.mono (by omega))
          replace E5 := E5.past hg N45.symm
          replace O8 := O8.apart hg N84
          replace O9 := O9.apart hg N94
          clear E4
          have E4 := E4'
          clear E4' hg hz B
          refine ⟨⟨D0, D1⟩, ?_⟩
          refine tree_one rfl ?_
          go_wp2_with (refine wpList_iset rfl _ _ _ rfl rfl rfl E5 (by kernel_rfl) ?_; intro V28 B E5' hg hz)
          replace D0 := D0.below (by omega) B
          replace D1 := D1.below (by omega) B
          replace r0 := (B.cell (p := ⟨w.heap.size + 2, 0, none⟩) G5).trans r0
          replace r1 := (B.cell (p := ⟨w.heap.size + 2, 1, none⟩) G5).trans r1
          replace r2 := (B.cell (p := ⟨w.heap.size + 2, 2, none⟩) G5).trans r2
          replace r3 := (B.cell (p := ⟨w.heap.size + 2, 3, none⟩) G5).trans r3
          replace r4 := (B.cell (p := ⟨w.heap.size + 2, 4, none⟩) G5).trans r4
          replace r5 := (B.cell (p := ⟨w.heap.size + 2, 5, none⟩) G5).trans r5
          replace BB := BB.trans (B.mono (by omega))
          replace E4 := E4.past hg N45
          replace O8 := O8.apart hg N85
          replace O9 := O9.apart hg N95
          clear E5
          have E5 := E5'
          clear E5' hg hz B
          refine ⟨⟨D0, D1⟩, ?_⟩
          exact tree_nil ⟨rfl, V20.heap.size, V1.heap.size, A8, c8, A9, c9, rfl, D0, D1, E4.1, E5.1, r0, r1, r2, r3, r4, r5, O8.rd, O9.rd, O9.room, BB⟩
    · go_wp2_with fail
      have rz := r0
      have bx := box_below V0 #[.int .i64 0, .int .i64 0, .int .i64 0, .slice none 0 0] 25
      replace D0 := IAt.on D0 bx
      replace D1 := IAt.on D1 bx
      replace r0 := cell_below bx r0
      replace r1 := cell_below bx r1
      replace r2 := cell_below bx r2
      replace r3 := cell_below bx r3
      replace r4 := cell_below bx r4
      replace r5 := cell_below bx r5
      replace BB := bon BB bx
      have E4 := IBox.made V0 0 0 0 none 0 0 25
      have G4 : w.heap.size + 2 < V0.heap.size := block_lt_of_cell rz
      refine ⟨⟨D0, D1⟩, ?_⟩
      refine tree_letter (S := fun X => IAt X w.heap.size f wd ht A n c ∧ IAt X (w.heap.size + 1) f2 wd2 ht2 A2 n2 c2 ∧ X.cell? ⟨w.heap.size + 2, 0, none⟩ = some (.int .i64 dx) ∧ X.cell? ⟨w.heap.size + 2, 1, none⟩ = some (.int .i64 dy) ∧ X.cell? ⟨w.heap.size + 2, 2, none⟩ = some (.int .i64 sx) ∧ X.cell? ⟨w.heap.size + 2, 3, none⟩ = some (.int .i64 sy) ∧ X.cell? ⟨w.heap.size + 2, 4, none⟩ = some (.int .i64 a) ∧ X.cell? ⟨w.heap.size + 2, 5, none⟩ = some (.int .i64 b) ∧ Below w.heap.size w X ∧ IBox X V0.heap.size 0 0 0 none 0 0) ?_ ⟨D0, D1, r0, r1, r2, r3, r4, r5, BB, E4⟩
      clear rz bx D0 D1 r0 r1 r2 r3 r4 r5 BB E4
      rintro V29 ⟨D0, D1, r0, r1, r2, r3, r4, r5, BB, E4⟩
      refine tree_two rfl rfl ?_ ?_
      · go_wp2_with (go_at_call 10; (with_reducible refine (CA.out _ ((HR.out.below BB).more BB.size)).mono ?_); rintro _ V30 ⟨A8, n8, c8, rfl, O8, B⟩; obtain rfl : n = n8 := (by have h1 := O8.len; have h2 := HR.out.len; omega); have N84 : ∀ g, A8 = some ⟨g, 0, none⟩ → g ≠ V0.heap.size := (fun g e => by subst e; have h1 : V29.heap.size ≤ g := (O8.1.lt _ rfl).1; have h2 := E4.lt; omega); replace D0 := IAt.on D0 B; replace D1 := IAt.on D1 B; replace r0 := cell_below B r0; replace r1 := cell_below B r1; replace r2 := cell_below B r2; replace r3 := cell_below B r3; replace r4 := cell_below B r4; replace r5 := cell_below B r5; replace BB := bon BB B; replace E4 := E4.on B; clear B)
        refine ⟨⟨D0, D1⟩, ?_⟩
        refine tree_two rfl rfl ?_ ?_
        · go_wp2_with (go_at_call 10; (with_reducible refine (CB.out _ ((HR2.out.below BB).more BB.size)).mono ?_); rintro _ V31 ⟨A9, n9, c9, rfl, O9, B⟩; obtain rfl : n2 = n9 := (by have h1 := O9.len; have h2 := HR2.out.len; omega); have N94 : ∀ g, A9 = some ⟨g, 0, none⟩ → g ≠ V0.heap.size := (fun g e => by subst e; have h1 : V30.heap.size ≤ g := (O9.1.lt _ rfl).1; have h2 := E4.lt; omega); replace D0 := IAt.on D0 B; replace D1 := IAt.on D1 B; replace r0 := cell_below B r0; replace r1 := cell_below B r1; replace r2 := cell_below B r2; replace r3 := cell_below B r3; replace r4 := cell_below B r4; replace r5 := cell_below B r5; replace BB := bon BB B; replace E4 := E4.on B; replace O8 := O8.on B; clear B)
          refine ⟨⟨D0, D1⟩, ?_⟩
          refine tree_one rfl ?_
          go_wp2_with fail
          have rz := r0
          have E4z := E4.lt
          have bx := box_below V31 #[.int .i64 0, .int .i64 0, .int .i64 0, .slice none 0 0] 25
          have N85 : ∀ g, A8 = some ⟨g, 0, none⟩ → g ≠ V31.heap.size := fun g e => by subst e; have h1 := O8.lt; omega
          have N95 : ∀ g, A9 = some ⟨g, 0, none⟩ → g ≠ V31.heap.size := fun g e => by subst e; have h1 := O9.lt; omega
          replace D0 := IAt.on D0 bx
          replace D1 := IAt.on D1 bx
          replace r0 := cell_below bx r0
          replace r1 := cell_below bx r1
          replace r2 := cell_below bx r2
          replace r3 := cell_below bx r3
          replace r4 := cell_below bx r4
          replace r5 := cell_below bx r5
          replace BB := bon BB bx
          replace E4 := E4.on bx
          replace O8 := O8.on bx
          replace O9 := O9.on bx
          have E5 := IBox.made V31 0 0 0 none 0 0 25
          have G5 : w.heap.size + 2 < V31.heap.size := block_lt_of_cell rz
          have N45 : V0.heap.size ≠ V31.heap.size := by have h1 := E4z; omega
          refine ⟨⟨D0, D1⟩, ?_⟩
          refine tree_letter (S := fun X => IAt X w.heap.size f wd ht A n c ∧ IAt X (w.heap.size + 1) f2 wd2 ht2 A2 n2 c2 ∧ X.cell? ⟨w.heap.size + 2, 0, none⟩ = some (.int .i64 dx) ∧ X.cell? ⟨w.heap.size + 2, 1, none⟩ = some (.int .i64 dy) ∧ X.cell? ⟨w.heap.size + 2, 2, none⟩ = some (.int .i64 sx) ∧ X.cell? ⟨w.heap.size + 2, 3, none⟩ = some (.int .i64 sy) ∧ X.cell? ⟨w.heap.size + 2, 4, none⟩ = some (.int .i64 a) ∧ X.cell? ⟨w.heap.size + 2, 5, none⟩ = some (.int .i64 b) ∧ Below w.heap.size w X ∧ IBox X V0.heap.size 0 0 0 none 0 0 ∧ IBox X V31.heap.size 0 0 0 none 0 0 ∧ Own X V29.heap.size 5 .u8 A8 n c8 l ∧ Own X V30.heap.size 5 .u8 A9 n2 c9 l2) ?_ ⟨D0, D1, r0, r1, r2, r3, r4, r5, BB, E4, E5, O8, O9⟩
          clear rz bx D0 D1 r0 r1 r2 r3 r4 r5 BB E4 E5 O8 O9
          rintro V32 ⟨D0, D1, r0, r1, r2, r3, r4, r5, BB, E4, E5, O8, O9⟩
          refine tree_one rfl ?_
          go_wp2_with (refine wpList_iset rfl _ _ _ rfl rfl rfl E4 (by kernel_rfl) ?_; intro V33 B E4' hg hz)
          replace D0 := D0.below (by omega) B
          replace D1 := D1.below (by omega) B
          replace r0 := (B.cell (p := ⟨w.heap.size + 2, 0, none⟩) G4).trans r0
          replace r1 := (B.cell (p := ⟨w.heap.size + 2, 1, none⟩) G4).trans r1
          replace r2 := (B.cell (p := ⟨w.heap.size + 2, 2, none⟩) G4).trans r2
          replace r3 := (B.cell (p := ⟨w.heap.size + 2, 3, none⟩) G4).trans r3
          replace r4 := (B.cell (p := ⟨w.heap.size + 2, 4, none⟩) G4).trans r4
          replace r5 := (B.cell (p := ⟨w.heap.size + 2, 5, none⟩) G4).trans r5
          replace BB := BB.trans (B.mono (by omega))
          replace E5 := E5.past hg N45.symm
          replace O8 := O8.apart hg N84
          replace O9 := O9.apart hg N94
          clear E4
          have E4 := E4'
          clear E4' hg hz B
          refine ⟨⟨D0, D1⟩, ?_⟩
          refine tree_one rfl ?_
          go_wp2_with (refine wpList_iset rfl _ _ _ rfl rfl rfl E5 (by kernel_rfl) ?_; intro V34 B E5' hg hz)
          replace D0 := D0.below (by omega) B
          replace D1 := D1.below (by omega) B
          replace r0 := (B.cell (p := ⟨w.heap.size + 2, 0, none⟩) G5).trans r0
          replace r1 := (B.cell (p := ⟨w.heap.size + 2, 1, none⟩) G5).trans r1
          replace r2 := (B.cell (p := ⟨w.heap.size + 2, 2, none⟩) G5).trans r2
          replace r3 := (B.cell (p := ⟨w.heap.size + 2, 3, none⟩) G5).trans r3
          replace r4 := (B.cell (p := ⟨w.heap.size + 2, 4, none⟩) G5).trans r4
          replace r5 := (B.cell (p := ⟨w.heap.size + 2, 5, none⟩) G5).trans r5
          replace BB := BB.trans (B.mono (by omega))
          replace E4 := E4.past hg N45
          replace O8 := O8.apart hg N85
          replace O9 := O9.apart hg N95
          clear E5
          have E5 := E5'
          clear E5' hg hz B
          refine ⟨⟨D0, D1⟩, ?_⟩
          exact tree_nil ⟨rfl, V0.heap.size, V31.heap.size, A8, c8, A9, c9, rfl, D0, D1, E4.1, E5.1, r0, r1, r2, r3, r4, r5, O8.rd, O9.rd, O9.room, BB⟩
        · go_wp2_with fail
          have rz := r0
          have E4z := E4.lt
          have bx := box_below V30 #[.int .i64 0, .int .i64 0, .int .i64 0, .slice none 0 0] 25
          have N85 : ∀ g, A8 = some ⟨g, 0, none⟩ → g ≠ V30.heap.size := fun g e => by subst e; have h1 := O8.lt; omega
          replace D0 := IAt.on D0 bx
          replace D1 := IAt.on D1 bx
          replace r0 := cell_below bx r0
          replace r1 := cell_below bx r1
          replace r2 := cell_below bx r2
          replace r3 := cell_below bx r3
          replace r4 := cell_below bx r4
          replace r5 := cell_below bx r5
          replace BB := bon BB bx
          replace E4 := E4.on bx
          replace O8 := O8.on bx
          have E5 := IBox.made V30 0 0 0 none 0 0 25
          have G5 : w.heap.size + 2 < V30.heap.size := block_lt_of_cell rz
          have N45 : V0.heap.size ≠ V30.heap.size := by have h1 := E4z; omega
          refine ⟨⟨D0, D1⟩, ?_⟩
          refine tree_letter (S := fun X => IAt X w.heap.size f wd ht A n c ∧ IAt X (w.heap.size + 1) f2 wd2 ht2 A2 n2 c2 ∧ X.cell? ⟨w.heap.size + 2, 0, none⟩ = some (.int .i64 dx) ∧ X.cell? ⟨w.heap.size + 2, 1, none⟩ = some (.int .i64 dy) ∧ X.cell? ⟨w.heap.size + 2, 2, none⟩ = some (.int .i64 sx) ∧ X.cell? ⟨w.heap.size + 2, 3, none⟩ = some (.int .i64 sy) ∧ X.cell? ⟨w.heap.size + 2, 4, none⟩ = some (.int .i64 a) ∧ X.cell? ⟨w.heap.size + 2, 5, none⟩ = some (.int .i64 b) ∧ Below w.heap.size w X ∧ IBox X V0.heap.size 0 0 0 none 0 0 ∧ IBox X V30.heap.size 0 0 0 none 0 0 ∧ Own X V29.heap.size 5 .u8 A8 n c8 l) ?_ ⟨D0, D1, r0, r1, r2, r3, r4, r5, BB, E4, E5, O8⟩
          clear rz bx D0 D1 r0 r1 r2 r3 r4 r5 BB E4 E5 O8
          rintro V35 ⟨D0, D1, r0, r1, r2, r3, r4, r5, BB, E4, E5, O8⟩
          refine tree_one rfl ?_
          go_wp2_with (go_at_call 10; (with_reducible refine (CB.out _ ((HR2.out.below BB).more BB.size)).mono ?_); rintro _ V36 ⟨A9, n9, c9, rfl, O9, B⟩; obtain rfl : n2 = n9 := (by have h1 := O9.len; have h2 := HR2.out.len; omega); have N94 : ∀ g, A9 = some ⟨g, 0, none⟩ → g ≠ V0.heap.size := (fun g e => by subst e; have h1 : V35.heap.size ≤ g := (O9.1.lt _ rfl).1; have h2 := E4.lt; omega); have N95 : ∀ g, A9 = some ⟨g, 0, none⟩ → g ≠ V30.heap.size := (fun g e => by subst e; have h1 : V35.heap.size ≤ g := (O9.1.lt _ rfl).1; have h2 := E5.lt; omega); replace D0 := IAt.on D0 B; replace D1 := IAt.on D1 B; replace r0 := cell_below B r0; replace r1 := cell_below B r1; replace r2 := cell_below B r2; replace r3 := cell_below B r3; replace r4 := cell_below B r4; replace r5 := cell_below B r5; replace BB := bon BB B; replace E4 := E4.on B; replace E5 := E5.on B; replace O8 := O8.on B; clear B)
          refine ⟨⟨D0, D1⟩, ?_⟩
          refine tree_one rfl ?_
          go_wp2_with (refine wpList_iset rfl _ _ _ rfl rfl rfl E4 (by kernel_rfl) ?_; intro V37 B E4' hg hz)
          replace D0 := D0.below (by omega) B
          replace D1 := D1.below (by omega) B
          replace r0 := (B.cell (p := ⟨w.heap.size + 2, 0, none⟩) G4).trans r0
          replace r1 := (B.cell (p := ⟨w.heap.size + 2, 1, none⟩) G4).trans r1
          replace r2 := (B.cell (p := ⟨w.heap.size + 2, 2, none⟩) G4).trans r2
          replace r3 := (B.cell (p := ⟨w.heap.size + 2, 3, none⟩) G4).trans r3
          replace r4 := (B.cell (p := ⟨w.heap.size + 2, 4, none⟩) G4).trans r4
          replace r5 := (B.cell (p := ⟨w.heap.size + 2, 5, none⟩) G4).trans r5
          replace BB := BB.trans (B.mono (by omega))
          replace E5 := E5.past hg N45.symm
          replace O8 := O8.apart hg N84
          replace O9 := O9.apart hg N94
          clear E4
          have E4 := E4'
          clear E4' hg hz B
          refine ⟨⟨D0, D1⟩, ?_⟩
          refine tree_one rfl ?_
          go_wp2_with (refine wpList_iset rfl _ _ _ rfl rfl rfl E5 (by kernel_rfl) ?_; intro V38 B E5' hg hz)
          replace D0 := D0.below (by omega) B
          replace D1 := D1.below (by omega) B
          replace r0 := (B.cell (p := ⟨w.heap.size + 2, 0, none⟩) G5).trans r0
          replace r1 := (B.cell (p := ⟨w.heap.size + 2, 1, none⟩) G5).trans r1
          replace r2 := (B.cell (p := ⟨w.heap.size + 2, 2, none⟩) G5).trans r2
          replace r3 := (B.cell (p := ⟨w.heap.size + 2, 3, none⟩) G5).trans r3
          replace r4 := (B.cell (p := ⟨w.heap.size + 2, 4, none⟩) G5).trans r4
          replace r5 := (B.cell (p := ⟨w.heap.size + 2, 5, none⟩) G5).trans r5
          replace BB := BB.trans (B.mono (by omega))
          replace E4 := E4.past hg N45
          replace O8 := O8.apart hg N85
          replace O9 := O9.apart hg N95
          clear E5
          have E5 := E5'
          clear E5' hg hz B
          refine ⟨⟨D0, D1⟩, ?_⟩
          exact tree_nil ⟨rfl, V0.heap.size, V30.heap.size, A8, c8, A9, c9, rfl, D0, D1, E4.1, E5.1, r0, r1, r2, r3, r4, r5, O8.rd, O9.rd, O9.room, BB⟩
      · go_wp2_with fail
        have rz := r0
        have E4z := E4.lt
        have bx := box_below V29 #[.int .i64 0, .int .i64 0, .int .i64 0, .slice none 0 0] 25
        replace D0 := IAt.on D0 bx
        replace D1 := IAt.on D1 bx
        replace r0 := cell_below bx r0
        replace r1 := cell_below bx r1
        replace r2 := cell_below bx r2
        replace r3 := cell_below bx r3
        replace r4 := cell_below bx r4
        replace r5 := cell_below bx r5
        replace BB := bon BB bx
        replace E4 := E4.on bx
        have E5 := IBox.made V29 0 0 0 none 0 0 25
        have G5 : w.heap.size + 2 < V29.heap.size := block_lt_of_cell rz
        have N45 : V0.heap.size ≠ V29.heap.size := by have h1 := E4z; omega
        refine ⟨⟨D0, D1⟩, ?_⟩
        refine tree_letter (S := fun X => IAt X w.heap.size f wd ht A n c ∧ IAt X (w.heap.size + 1) f2 wd2 ht2 A2 n2 c2 ∧ X.cell? ⟨w.heap.size + 2, 0, none⟩ = some (.int .i64 dx) ∧ X.cell? ⟨w.heap.size + 2, 1, none⟩ = some (.int .i64 dy) ∧ X.cell? ⟨w.heap.size + 2, 2, none⟩ = some (.int .i64 sx) ∧ X.cell? ⟨w.heap.size + 2, 3, none⟩ = some (.int .i64 sy) ∧ X.cell? ⟨w.heap.size + 2, 4, none⟩ = some (.int .i64 a) ∧ X.cell? ⟨w.heap.size + 2, 5, none⟩ = some (.int .i64 b) ∧ Below w.heap.size w X ∧ IBox X V0.heap.size 0 0 0 none 0 0 ∧ IBox X V29.heap.size 0 0 0 none 0 0) ?_ ⟨D0, D1, r0, r1, r2, r3, r4, r5, BB, E4, E5⟩
        clear rz bx D0 D1 r0 r1 r2 r3 r4 r5 BB E4 E5
        rintro V39 ⟨D0, D1, r0, r1, r2, r3, r4, r5, BB, E4, E5⟩
        refine tree_one rfl ?_
        go_wp2_with (go_at_call 10; (with_reducible refine (CA.out _ ((HR.out.below BB).more BB.size)).mono ?_); rintro _ V40 ⟨A8, n8, c8, rfl, O8, B⟩; obtain rfl : n = n8 := (by have h1 := O8.len; have h2 := HR.out.len; omega); have N84 : ∀ g, A8 = some ⟨g, 0, none⟩ → g ≠ V0.heap.size := (fun g e => by subst e; have h1 : V39.heap.size ≤ g := (O8.1.lt _ rfl).1; have h2 := E4.lt; omega); have N85 : ∀ g, A8 = some ⟨g, 0, none⟩ → g ≠ V29.heap.size := (fun g e => by subst e; have h1 : V39.heap.size ≤ g := (O8.1.lt _ rfl).1; have h2 := E5.lt; omega); replace D0 := IAt.on D0 B; replace D1 := IAt.on D1 B; replace r0 := cell_below B r0; replace r1 := cell_below B r1; replace r2 := cell_below B r2; replace r3 := cell_below B r3; replace r4 := cell_below B r4; replace r5 := cell_below B r5; replace BB := bon BB B; replace E4 := E4.on B; replace E5 := E5.on B; clear B)
        refine ⟨⟨D0, D1⟩, ?_⟩
        refine tree_one rfl ?_
        go_wp2_with (go_at_call 10; (with_reducible refine (CB.out _ ((HR2.out.below BB).more BB.size)).mono ?_); rintro _ V41 ⟨A9, n9, c9, rfl, O9, B⟩; obtain rfl : n2 = n9 := (by have h1 := O9.len; have h2 := HR2.out.len; omega); have N94 : ∀ g, A9 = some ⟨g, 0, none⟩ → g ≠ V0.heap.size := (fun g e => by subst e; have h1 : V40.heap.size ≤ g := (O9.1.lt _ rfl).1; have h2 := E4.lt; omega); have N95 : ∀ g, A9 = some ⟨g, 0, none⟩ → g ≠ V29.heap.size := (fun g e => by subst e; have h1 : V40.heap.size ≤ g := (O9.1.lt _ rfl).1; have h2 := E5.lt; omega); replace D0 := IAt.on D0 B; replace D1 := IAt.on D1 B; replace r0 := cell_below B r0; replace r1 := cell_below B r1; replace r2 := cell_below B r2; replace r3 := cell_below B r3; replace r4 := cell_below B r4; replace r5 := cell_below B r5; replace BB := bon BB B; replace E4 := E4.on B; replace E5 := E5.on B; replace O8 := O8.on B; clear B)
        refine ⟨⟨D0, D1⟩, ?_⟩
        refine tree_one rfl ?_
        go_wp2_with (refine wpList_iset rfl _ _ _ rfl rfl rfl E4 (by kernel_rfl) ?_; intro V42 B E4' hg hz)
        replace D0 := D0.below (by omega) B
        replace D1 := D1.below (by omega) B
        replace r0 := (B.cell (p := ⟨w.heap.size + 2, 0, none⟩) G4).trans r0
        replace r1 := (B.cell (p := ⟨w.heap.size + 2, 1, none⟩) G4).trans r1
        replace r2 := (B.cell (p := ⟨w.heap.size + 2, 2, none⟩) G4).trans r2
        replace r3 := (B.cell (p := ⟨w.heap.size + 2, 3, none⟩) G4).trans r3
        replace r4 := (B.cell (p := ⟨w.heap.size + 2, 4, none⟩) G4).trans r4
        replace r5 := (B.cell (p := ⟨w.heap.size + 2, 5, none⟩) G4).trans r5
        replace BB := BB.trans (B.mono (by omega))
        replace E5 := E5.past hg N45.symm
        replace O8 := O8.apart hg N84
        replace O9 := O9.apart hg N94
        clear E4
        have E4 := E4'
        clear E4' hg hz B
        refine ⟨⟨D0, D1⟩, ?_⟩
        refine tree_one rfl ?_
        go_wp2_with (refine wpList_iset rfl _ _ _ rfl rfl rfl E5 (by kernel_rfl) ?_; intro V43 B E5' hg hz)
        replace D0 := D0.below (by omega) B
        replace D1 := D1.below (by omega) B
        replace r0 := (B.cell (p := ⟨w.heap.size + 2, 0, none⟩) G5).trans r0
        replace r1 := (B.cell (p := ⟨w.heap.size + 2, 1, none⟩) G5).trans r1
        replace r2 := (B.cell (p := ⟨w.heap.size + 2, 2, none⟩) G5).trans r2
        replace r3 := (B.cell (p := ⟨w.heap.size + 2, 3, none⟩) G5).trans r3
        replace r4 := (B.cell (p := ⟨w.heap.size + 2, 4, none⟩) G5).trans r4
        replace r5 := (B.cell (p := ⟨w.heap.size + 2, 5, none⟩) G5).trans r5
        replace BB := BB.trans (B.mono (by omega))
        replace E4 := E4.past hg N45
        replace O8 := O8.apart hg N85
        replace O9 := O9.apart hg N95
        clear E5
        have E5 := E5'
        clear E5' hg hz B
        refine ⟨⟨D0, D1⟩, ?_⟩
        exact tree_nil ⟨rfl, V0.heap.size, V29.heap.size, A8, c8, A9, c9, rfl, D0, D1, E4.1, E5.1, r0, r1, r2, r3, r4, r5, O8.rd, O9.rd, O9.room, BB⟩
    · go_wp2_with fail
      have rz := r0
      have bx := box_below V0 #[.int .i64 0, .int .i64 0, .int .i64 0, .slice none 0 0] 25
      replace D0 := IAt.on D0 bx
      replace D1 := IAt.on D1 bx
      replace r0 := cell_below bx r0
      replace r1 := cell_below bx r1
      replace r2 := cell_below bx r2
      replace r3 := cell_below bx r3
      replace r4 := cell_below bx r4
      replace r5 := cell_below bx r5
      replace BB := bon BB bx
      have E5 := IBox.made V0 0 0 0 none 0 0 25
      have G5 : w.heap.size + 2 < V0.heap.size := block_lt_of_cell rz
      refine ⟨⟨D0, D1⟩, ?_⟩
      refine tree_letter (S := fun X => IAt X w.heap.size f wd ht A n c ∧ IAt X (w.heap.size + 1) f2 wd2 ht2 A2 n2 c2 ∧ X.cell? ⟨w.heap.size + 2, 0, none⟩ = some (.int .i64 dx) ∧ X.cell? ⟨w.heap.size + 2, 1, none⟩ = some (.int .i64 dy) ∧ X.cell? ⟨w.heap.size + 2, 2, none⟩ = some (.int .i64 sx) ∧ X.cell? ⟨w.heap.size + 2, 3, none⟩ = some (.int .i64 sy) ∧ X.cell? ⟨w.heap.size + 2, 4, none⟩ = some (.int .i64 a) ∧ X.cell? ⟨w.heap.size + 2, 5, none⟩ = some (.int .i64 b) ∧ Below w.heap.size w X ∧ IBox X V0.heap.size 0 0 0 none 0 0) ?_ ⟨D0, D1, r0, r1, r2, r3, r4, r5, BB, E5⟩
      clear rz bx D0 D1 r0 r1 r2 r3 r4 r5 BB E5
      rintro V44 ⟨D0, D1, r0, r1, r2, r3, r4, r5, BB, E5⟩
      refine tree_two rfl rfl ?_ ?_
      · go_wp2_with (go_at_call 10; (with_reducible refine (CA.out _ ((HR.out.below BB).more BB.size)).mono ?_); rintro _ V45 ⟨A8, n8, c8, rfl, O8, B⟩; obtain rfl : n = n8 := (by have h1 := O8.len; have h2 := HR.out.len; omega); have N85 : ∀ g, A8 = some ⟨g, 0, none⟩ → g ≠ V0.heap.size := (fun g e => by subst e; have h1 : V44.heap.size ≤ g := (O8.1.lt _ rfl).1; have h2 := E5.lt; omega); replace D0 := IAt.on D0 B; replace D1 := IAt.on D1 B; replace r0 := cell_below B r0; replace r1 := cell_below B r1; replace r2 := cell_below B r2; replace r3 := cell_below B r3; replace r4 := cell_below B r4; replace r5 := cell_below B r5; replace BB := bon BB B; replace E5 := E5.on B; clear B)
        refine ⟨⟨D0, D1⟩, ?_⟩
        refine tree_two rfl rfl ?_ ?_
        · go_wp2_with (go_at_call 10; (with_reducible refine (CB.out _ ((HR2.out.below BB).more BB.size)).mono ?_); rintro _ V46 ⟨A9, n9, c9, rfl, O9, B⟩; obtain rfl : n2 = n9 := (by have h1 := O9.len; have h2 := HR2.out.len; omega); have N95 : ∀ g, A9 = some ⟨g, 0, none⟩ → g ≠ V0.heap.size := (fun g e => by subst e; have h1 : V45.heap.size ≤ g := (O9.1.lt _ rfl).1; have h2 := E5.lt; omega); replace D0 := IAt.on D0 B; replace D1 := IAt.on D1 B; replace r0 := cell_below B r0; replace r1 := cell_below B r1; replace r2 := cell_below B r2; replace r3 := cell_below B r3; replace r4 := cell_below B r4; replace r5 := cell_below B r5; replace BB := bon BB B; replace E5 := E5.on B; replace O8 := O8.on B; clear B)
          refine ⟨⟨D0, D1⟩, ?_⟩
          refine tree_one rfl ?_
          go_wp2_with fail
          have rz := r0
          have E5z := E5.lt
          have bx := box_below V46 #[.int .i64 0, .int .i64 0, .int .i64 0, .slice none 0 0] 25
          have N84 : ∀ g, A8 = some ⟨g, 0, none⟩ → g ≠ V46.heap.size := fun g e => by subst e; have h1 := O8.lt; omega
          have N94 : ∀ g, A9 = some ⟨g, 0, none⟩ → g ≠ V46.heap.size := fun g e => by subst e; have h1 := O9.lt; omega
          replace D0 := IAt.on D0 bx
          replace D1 := IAt.on D1 bx
          replace r0 := cell_below bx r0
          replace r1 := cell_below bx r1
          replace r2 := cell_below bx r2
          replace r3 := cell_below bx r3
          replace r4 := cell_below bx r4
          replace r5 := cell_below bx r5
          replace BB := bon BB bx
          replace E5 := E5.on bx
          replace O8 := O8.on bx
          replace O9 := O9.on bx
          have E4 := IBox.made V46 0 0 0 none 0 0 25
          have G4 : w.heap.size + 2 < V46.heap.size := block_lt_of_cell rz
          have N45 : V46.heap.size ≠ V0.heap.size := by have h1 := E5z; omega
          refine ⟨⟨D0, D1⟩, ?_⟩
          refine tree_letter (S := fun X => IAt X w.heap.size f wd ht A n c ∧ IAt X (w.heap.size + 1) f2 wd2 ht2 A2 n2 c2 ∧ X.cell? ⟨w.heap.size + 2, 0, none⟩ = some (.int .i64 dx) ∧ X.cell? ⟨w.heap.size + 2, 1, none⟩ = some (.int .i64 dy) ∧ X.cell? ⟨w.heap.size + 2, 2, none⟩ = some (.int .i64 sx) ∧ X.cell? ⟨w.heap.size + 2, 3, none⟩ = some (.int .i64 sy) ∧ X.cell? ⟨w.heap.size + 2, 4, none⟩ = some (.int .i64 a) ∧ X.cell? ⟨w.heap.size + 2, 5, none⟩ = some (.int .i64 b) ∧ Below w.heap.size w X ∧ IBox X V46.heap.size 0 0 0 none 0 0 ∧ IBox X V0.heap.size 0 0 0 none 0 0 ∧ Own X V44.heap.size 5 .u8 A8 n c8 l ∧ Own X V45.heap.size 5 .u8 A9 n2 c9 l2) ?_ ⟨D0, D1, r0, r1, r2, r3, r4, r5, BB, E4, E5, O8, O9⟩
          clear rz bx D0 D1 r0 r1 r2 r3 r4 r5 BB E4 E5 O8 O9
          rintro V47 ⟨D0, D1, r0, r1, r2, r3, r4, r5, BB, E4, E5, O8, O9⟩
          refine tree_one rfl ?_
          go_wp2_with (refine wpList_iset rfl _ _ _ rfl rfl rfl E4 (by kernel_rfl) ?_; intro V48 B E4' hg hz)
          replace D0 := D0.below (by omega) B
          replace D1 := D1.below (by omega) B
          replace r0 := (B.cell (p := ⟨w.heap.size + 2, 0, none⟩) G4).trans r0
          replace r1 := (B.cell (p := ⟨w.heap.size + 2, 1, none⟩) G4).trans r1
          replace r2 := (B.cell (p := ⟨w.heap.size + 2, 2, none⟩) G4).trans r2
          replace r3 := (B.cell (p := ⟨w.heap.size + 2, 3, none⟩) G4).trans r3
          replace r4 := (B.cell (p := ⟨w.heap.size + 2, 4, none⟩) G4).trans r4
          replace r5 := (B.cell (p := ⟨w.heap.size + 2, 5, none⟩) G4).trans r5
          replace BB := BB.trans (B.mono (by omega))
          replace E5 := E5.past hg N45.symm
          replace O8 := O8.apart hg N84
          replace O9 := O9.apart hg N94
          clear E4
          have E4 := E4'
          clear E4' hg hz B
          refine ⟨⟨D0, D1⟩, ?_⟩
          refine tree_one rfl ?_
          go_wp2_with (refine wpList_iset rfl _ _ _ rfl rfl rfl E5 (by kernel_rfl) ?_; intro V49 B E5' hg hz)
          replace D0 := D0.below (by omega) B
          replace D1 := D1.below (by omega) B
          replace r0 := (B.cell (p := ⟨w.heap.size + 2, 0, none⟩) G5).trans r0
          replace r1 := (B.cell (p := ⟨w.heap.size + 2, 1, none⟩) G5).trans r1
          replace r2 := (B.cell (p := ⟨w.heap.size + 2, 2, none⟩) G5).trans r2
          replace r3 := (B.cell (p := ⟨w.heap.size + 2, 3, none⟩) G5).trans r3
          replace r4 := (B.cell (p := ⟨w.heap.size + 2, 4, none⟩) G5).trans r4
          replace r5 := (B.cell (p := ⟨w.heap.size + 2, 5, none⟩) G5).trans r5
          replace BB := BB.trans (B.mono (by omega))
          replace E4 := E4.past hg N45
          replace O8 := O8.apart hg N85
          replace O9 := O9.apart hg N95
          clear E5
          have E5 := E5'
          clear E5' hg hz B
          refine ⟨⟨D0, D1⟩, ?_⟩
          exact tree_nil ⟨rfl, V46.heap.size, V0.heap.size, A8, c8, A9, c9, rfl, D0, D1, E4.1, E5.1, r0, r1, r2, r3, r4, r5, O8.rd, O9.rd, O9.room, BB⟩
        · go_wp2_with fail
          have rz := r0
          have E5z := E5.lt
          have bx := box_below V45 #[.int .i64 0, .int .i64 0, .int .i64 0, .slice none 0 0] 25
          have N84 : ∀ g, A8 = some ⟨g, 0, none⟩ → g ≠ V45.heap.size := fun g e => by subst e; have h1 := O8.lt; omega
          replace D0 := IAt.on D0 bx
          replace D1 := IAt.on D1 bx
          replace r0 := cell_below bx r0
          replace r1 := cell_below bx r1
          replace r2 := cell_below bx r2
          replace r3 := cell_below bx r3
          replace r4 := cell_below bx r4
          replace r5 := cell_below bx r5
          replace BB := bon BB bx
          replace E5 := E5.on bx
          replace O8 := O8.on bx
          have E4 := IBox.made V45 0 0 0 none 0 0 25
          have G4 : w.heap.size + 2 < V45.heap.size := block_lt_of_cell rz
          have N45 : V45.heap.size ≠ V0.heap.size := by have h1 := E5z; omega
          refine ⟨⟨D0, D1⟩, ?_⟩
          refine tree_letter (S := fun X => IAt X w.heap.size f wd ht A n c ∧ IAt X (w.heap.size + 1) f2 wd2 ht2 A2 n2 c2 ∧ X.cell? ⟨w.heap.size + 2, 0, none⟩ = some (.int .i64 dx) ∧ X.cell? ⟨w.heap.size + 2, 1, none⟩ = some (.int .i64 dy) ∧ X.cell? ⟨w.heap.size + 2, 2, none⟩ = some (.int .i64 sx) ∧ X.cell? ⟨w.heap.size + 2, 3, none⟩ = some (.int .i64 sy) ∧ X.cell? ⟨w.heap.size + 2, 4, none⟩ = some (.int .i64 a) ∧ X.cell? ⟨w.heap.size + 2, 5, none⟩ = some (.int .i64 b) ∧ Below w.heap.size w X ∧ IBox X V45.heap.size 0 0 0 none 0 0 ∧ IBox X V0.heap.size 0 0 0 none 0 0 ∧ Own X V44.heap.size 5 .u8 A8 n c8 l) ?_ ⟨D0, D1, r0, r1, r2, r3, r4, r5, BB, E4, E5, O8⟩
          clear rz bx D0 D1 r0 r1 r2 r3 r4 r5 BB E4 E5 O8
          rintro V50 ⟨D0, D1, r0, r1, r2, r3, r4, r5, BB, E4, E5, O8⟩
          refine tree_one rfl ?_
          go_wp2_with (go_at_call 10; (with_reducible refine (CB.out _ ((HR2.out.below BB).more BB.size)).mono ?_); rintro _ V51 ⟨A9, n9, c9, rfl, O9, B⟩; obtain rfl : n2 = n9 := (by have h1 := O9.len; have h2 := HR2.out.len; omega); have N94 : ∀ g, A9 = some ⟨g, 0, none⟩ → g ≠ V45.heap.size := (fun g e => by subst e; have h1 : V50.heap.size ≤ g := (O9.1.lt _ rfl).1; have h2 := E4.lt; omega); have N95 : ∀ g, A9 = some ⟨g, 0, none⟩ → g ≠ V0.heap.size := (fun g e => by subst e; have h1 : V50.heap.size ≤ g := (O9.1.lt _ rfl).1; have h2 := E5.lt; omega); replace D0 := IAt.on D0 B; replace D1 := IAt.on D1 B; replace r0 := cell_below B r0; replace r1 := cell_below B r1; replace r2 := cell_below B r2; replace r3 := cell_below B r3; replace r4 := cell_below B r4; replace r5 := cell_below B r5; replace BB := bon BB B; replace E4 := E4.on B; replace E5 := E5.on B; replace O8 := O8.on B; clear B)
          refine ⟨⟨D0, D1⟩, ?_⟩
          refine tree_one rfl ?_
          go_wp2_with (refine wpList_iset rfl _ _ _ rfl rfl rfl E4 (by kernel_rfl) ?_; intro V52 B E4' hg hz)
          replace D0 := D0.below (by omega) B
          replace D1 := D1.below (by omega) B
          replace r0 := (B.cell (p := ⟨w.heap.size + 2, 0, none⟩) G4).trans r0
          replace r1 := (B.cell (p := ⟨w.heap.size + 2, 1, none⟩) G4).trans r1
          replace r2 := (B.cell (p := ⟨w.heap.size + 2, 2, none⟩) G4).trans r2
          replace r3 := (B.cell (p := ⟨w.heap.size + 2, 3, none⟩) G4).trans r3
          replace r4 := (B.cell (p := ⟨w.heap.size + 2, 4, none⟩) G4).trans r4
          replace r5 := (B.cell (p := ⟨w.heap.size + 2, 5, none⟩) G4).trans r5
          replace BB := BB.trans (B.mono (by omega))
          replace E5 := E5.past hg N45.symm
          replace O8 := O8.apart hg N84
          replace O9 := O9.apart hg N94
          clear E4
          have E4 := E4'
          clear E4' hg hz B
          refine ⟨⟨D0, D1⟩, ?_⟩
          refine tree_one rfl ?_
          go_wp2_with (refine wpList_iset rfl _ _ _ rfl rfl rfl E5 (by kernel_rfl) ?_; intro V53 B E5' hg hz)
          replace D0 := D0.below (by omega) B
          replace D1 := D1.below (by omega) B
          replace r0 := (B.cell (p := ⟨w.heap.size + 2, 0, none⟩) G5).trans r0
          replace r1 := (B.cell (p := ⟨w.heap.size + 2, 1, none⟩) G5).trans r1
          replace r2 := (B.cell (p := ⟨w.heap.size + 2, 2, none⟩) G5).trans r2
          replace r3 := (B.cell (p := ⟨w.heap.size + 2, 3, none⟩) G5).trans r3
          replace r4 := (B.cell (p := ⟨w.heap.size + 2, 4, none⟩) G5).trans r4
          replace r5 := (B.cell (p := ⟨w.heap.size + 2, 5, none⟩) G5).trans r5
          replace BB := BB.trans (B.mono (by omega))
          replace E4 := E4.past hg N45
          replace O8 := O8.apart hg N85
          replace O9 := O9.apart hg N95
          clear E5
          have E5 := E5'
          clear E5' hg hz B
          refine ⟨⟨D0, D1⟩, ?_⟩
          exact tree_nil ⟨rfl, V45.heap.size, V0.heap.size, A8, c8, A9, c9, rfl, D0, D1, E4.1, E5.1, r0, r1, r2, r3, r4, r5, O8.rd, O9.rd, O9.room, BB⟩
      · go_wp2_with fail
        have rz := r0
        have E5z := E5.lt
        have bx := box_below V44 #[.int .i64 0, .int .i64 0, .int .i64 0, .slice none 0 0] 25
        replace D0 := IAt.on D0 bx
        replace D1 := IAt.on D1 bx
        replace r0 := cell_below bx r0
        replace r1 := cell_below bx r1
        replace r2 := cell_below bx r2
        replace r3 := cell_below bx r3
        replace r4 := cell_below bx r4
        replace r5 := cell_below bx r5
        replace BB := bon BB bx
        replace E5 := E5.on bx
        have E4 := IBox.made V44 0 0 0 none 0 0 25
        have G4 : w.heap.size + 2 < V44.heap.size := block_lt_of_cell rz
        have N45 : V44.heap.size ≠ V0.heap.size := by have h1 := E5z; omega
        refine ⟨⟨D0, D1⟩, ?_⟩
        refine tree_letter (S := fun X => IAt X w.heap.size f wd ht A n c ∧ IAt X (w.heap.size + 1) f2 wd2 ht2 A2 n2 c2 ∧ X.cell? ⟨w.heap.size + 2, 0, none⟩ = some (.int .i64 dx) ∧ X.cell? ⟨w.heap.size + 2, 1, none⟩ = some (.int .i64 dy) ∧ X.cell? ⟨w.heap.size + 2, 2, none⟩ = some (.int .i64 sx) ∧ X.cell? ⟨w.heap.size + 2, 3, none⟩ = some (.int .i64 sy) ∧ X.cell? ⟨w.heap.size + 2, 4, none⟩ = some (.int .i64 a) ∧ X.cell? ⟨w.heap.size + 2, 5, none⟩ = some (.int .i64 b) ∧ Below w.heap.size w X ∧ IBox X V44.heap.size 0 0 0 none 0 0 ∧ IBox X V0.heap.size 0 0 0 none 0 0) ?_ ⟨D0, D1, r0, r1, r2, r3, r4, r5, BB, E4, E5⟩
        clear rz bx D0 D1 r0 r1 r2 r3 r4 r5 BB E4 E5
        rintro V54 ⟨D0, D1, r0, r1, r2, r3, r4, r5, BB, E4, E5⟩
        refine tree_one rfl ?_
        go_wp2_with (go_at_call 10; (with_reducible refine (CA.out _ ((HR.out.below BB).more BB.size)).mono ?_); rintro _ V55 ⟨A8, n8, c8, rfl, O8, B⟩; obtain rfl : n = n8 := (by have h1 := O8.len; have h2 := HR.out.len; omega); have N84 : ∀ g, A8 = some ⟨g, 0, none⟩ → g ≠ V44.heap.size := (fun g e => by subst e; have h1 : V54.heap.size ≤ g := (O8.1.lt _ rfl).1; have h2 := E4.lt; omega); have N85 : ∀ g, A8 = some ⟨g, 0, none⟩ → g ≠ V0.heap.size := (fun g e => by subst e; have h1 : V54.heap.size ≤ g := (O8.1.lt _ rfl).1; have h2 := E5.lt; omega); replace D0 := IAt.on D0 B; replace D1 := IAt.on D1 B; replace r0 := cell_below B r0; replace r1 := cell_below B r1; replace r2 := cell_below B r2; replace r3 := cell_below B r3; replace r4 := cell_below B r4; replace r5 := cell_below B r5; replace BB := bon BB B; replace E4 := E4.on B; replace E5 := E5.on B; clear B)
        refine ⟨⟨D0, D1⟩, ?_⟩
        refine tree_one rfl ?_
        go_wp2_with (go_at_call 10; (with_reducible refine (CB.out _ ((HR2.out.below BB).more BB.size)).mono ?_); rintro _ V56 ⟨A9, n9, c9, rfl, O9, B⟩; obtain rfl : n2 = n9 := (by have h1 := O9.len; have h2 := HR2.out.len; omega); have N94 : ∀ g, A9 = some ⟨g, 0, none⟩ → g ≠ V44.heap.size := (fun g e => by subst e; have h1 : V55.heap.size ≤ g := (O9.1.lt _ rfl).1; have h2 := E4.lt; omega); have N95 : ∀ g, A9 = some ⟨g, 0, none⟩ → g ≠ V0.heap.size := (fun g e => by subst e; have h1 : V55.heap.size ≤ g := (O9.1.lt _ rfl).1; have h2 := E5.lt; omega); replace D0 := IAt.on D0 B; replace D1 := IAt.on D1 B; replace r0 := cell_below B r0; replace r1 := cell_below B r1; replace r2 := cell_below B r2; replace r3 := cell_below B r3; replace r4 := cell_below B r4; replace r5 := cell_below B r5; replace BB := bon BB B; replace E4 := E4.on B; replace E5 := E5.on B; replace O8 := O8.on B; clear B)
        refine ⟨⟨D0, D1⟩, ?_⟩
        refine tree_one rfl ?_
        go_wp2_with (refine wpList_iset rfl _ _ _ rfl rfl rfl E4 (by kernel_rfl) ?_; intro V57 B E4' hg hz)
        replace D0 := D0.below (by omega) B
        replace D1 := D1.below (by omega) B
        replace r0 := (B.cell (p := ⟨w.heap.size + 2, 0, none⟩) G4).trans r0
        replace r1 := (B.cell (p := ⟨w.heap.size + 2, 1, none⟩) G4).trans r1
        replace r2 := (B.cell (p := ⟨w.heap.size + 2, 2, none⟩) G4).trans r2
        replace r3 := (B.cell (p := ⟨w.heap.size + 2, 3, none⟩) G4).trans r3
        replace r4 := (B.cell (p := ⟨w.heap.size + 2, 4, none⟩) G4).trans r4
        replace r5 := (B.cell (p := ⟨w.heap.size + 2, 5, none⟩) G4).trans r5
        replace BB := BB.trans (B.mono (by omega))
        replace E5 := E5.past hg N45.symm
        replace O8 := O8.apart hg N84
        replace O9 := O9.apart hg N94
        clear E4
        have E4 := E4'
        clear E4' hg hz B
        refine ⟨⟨D0, D1⟩, ?_⟩
        refine tree_one rfl ?_
        go_wp2_with (refine wpList_iset rfl _ _ _ rfl rfl rfl E5 (by kernel_rfl) ?_; intro V58 B E5' hg hz)
        replace D0 := D0.below (by omega) B
        replace D1 := D1.below (by omega) B
        replace r0 := (B.cell (p := ⟨w.heap.size + 2, 0, none⟩) G5).trans r0
        replace r1 := (B.cell (p := ⟨w.heap.size + 2, 1, none⟩) G5).trans r1
        replace r2 := (B.cell (p := ⟨w.heap.size + 2, 2, none⟩) G5).trans r2
        replace r3 := (B.cell (p := ⟨w.heap.size + 2, 3, none⟩) G5).trans r3
        replace r4 := (B.cell (p := ⟨w.heap.size + 2, 4, none⟩) G5).trans r4
        replace r5 := (B.cell (p := ⟨w.heap.size + 2, 5, none⟩) G5).trans r5
        replace BB := BB.trans (B.mono (by omega))
        replace E4 := E4.past hg N45
        replace O8 := O8.apart hg N85
        replace O9 := O9.apart hg N95
        clear E5
        have E5 := E5'
        clear E5' hg hz B
        refine ⟨⟨D0, D1⟩, ?_⟩
        exact tree_nil ⟨rfl, V44.heap.size, V0.heap.size, A8, c8, A9, c9, rfl, D0, D1, E4.1, E5.1, r0, r1, r2, r3, r4, r5, O8.rd, O9.rd, O9.room, BB⟩
  · clear D0 D1 r0 r1 r2 r3 r4 r5 BB
    rintro _ W ⟨b4, b5, A8, c8, A9, c9, rfl, D0, D1, D4, D5, r0, r1, r2, r3, r4, r5, K8, K9, H9, BB⟩
    have bK := fun (V : World) (B : Below w.heap.size w V) => (HR.out.below B).more B.size
    have bK2 := fun (V : World) (B : Below w.heap.size w V) => (HR2.out.below B).more B.size
    have BK := Lib.hid bK
    have BK2 := Lib.hid bK2
    clear bK bK2
    go_simp
    go_wp2_with (first
      | (refine wpList_iload rfl _ _ rfl imgT D0 rfl ?_)
      | (refine wpList_iload rfl _ _ rfl imgT D1 rfl ?_)
      | (refine wpList_iload rfl _ _ rfl imgT D4 rfl ?_)
      | (refine wpList_iload rfl _ _ rfl imgT D5 rfl ?_)
      | (go_at_call 21; (with_reducible refine (CC.out _ (BK.out _ BB) (BK2.out _ BB)).mono ?_); rintro _ W10 ⟨A10, n10, c10, rfl, hc10, K10, B⟩; replace D0 := IAt.on D0 B; replace D1 := IAt.on D1 B; replace D4 := IAt.on D4 B; replace D5 := IAt.on D5 B; replace r0 := cell_below B r0; replace r1 := cell_below B r1; replace r2 := cell_below B r2; replace r3 := cell_below B r3; replace r4 := cell_below B r4; replace r5 := cell_below B r5; replace K8 := K8.on B; replace K9 := K9.on B; replace BB := bon BB B; clear B; have bx := box_below W10 #[.int .i64 mf, .int .i64 mw, .int .i64 mh, .slice A10 n10 c10] 25; have D10 := (IBox.made W10 mf mw mh A10 n10 c10 25).1; replace D0 := IAt.on D0 bx; replace D1 := IAt.on D1 bx; replace D4 := IAt.on D4 bx; replace D5 := IAt.on D5 bx; replace r0 := cell_below bx r0; replace r1 := cell_below bx r1; replace r2 := cell_below bx r2; replace r3 := cell_below bx r3; replace r4 := cell_below bx r4; replace r5 := cell_below bx r5; replace K8 := K8.on bx; replace K9 := K9.on bx; replace K10 := K10.on bx; replace BB := bon BB bx; clear bx)
      | (go_at_call 22; (with_reducible refine (CR.out _ _ _ _ _ K8 K9 H9).mono ?_); rintro _ W11 ⟨A11, n11, c11, rfl, hc11, K11, B⟩; replace D0 := IAt.on D0 B; replace D1 := IAt.on D1 B; replace D4 := IAt.on D4 B; replace D5 := IAt.on D5 B; replace D10 := IAt.on D10 B; replace r0 := cell_below B r0; replace r1 := cell_below B r1; replace r2 := cell_below B r2; replace r3 := cell_below B r3; replace r4 := cell_below B r4; replace r5 := cell_below B r5; replace K8 := K8.on B; replace K9 := K9.on B; replace K10 := K10.on B; replace BB := bon BB B; clear B; have bx := box_below W11 #[.int .i64 mf, .int .i64 mw, .int .i64 mh, .slice A11 n11 c11] 25; have D11 := (IBox.made W11 mf mw mh A11 n11 c11 25).1; replace D0 := IAt.on D0 bx; replace D1 := IAt.on D1 bx; replace D4 := IAt.on D4 bx; replace D5 := IAt.on D5 bx; replace D10 := IAt.on D10 bx; replace r0 := cell_below bx r0; replace r1 := cell_below bx r1; replace r2 := cell_below bx r2; replace r3 := cell_below bx r3; replace r4 := cell_below bx r4; replace r5 := cell_below bx r5; replace K8 := K8.on bx; replace K9 := K9.on bx; replace K10 := K10.on bx; replace K11 := K11.on bx; replace BB := bon BB bx; clear bx; have hi0 := D0.1; have hi1 := D0.2.1; have hi2 := D0.2.2.1; have hi3 := D0.2.2.2; have hj0 := D1.1; have hj1 := D1.2.1; have hj2 := D1.2.2.1; have hj3 := D1.2.2.2; have hk0 := D4.1; have hk1 := D4.2.1; have hk2 := D4.2.2.1; have hk3 := D4.2.2.2; have hm0 := D5.1; have hm1 := D5.2.1; have hm2 := D5.2.2.1; have hm3 := D5.2.2.2; have hp0 := D10.1; have hp1 := D10.2.1; have hp2 := D10.2.2.1; have hp3 := D10.2.2.2; have hq0 := D11.1; have hq1 := D11.2.1; have hq2 := D11.2.2.1; have hq3 := D11.2.2.2)
      | (go_at_call 17; (with_reducible refine (riequal_b mf mw mh A10 A11 n10 n11 c10 c11 ml _ K10 K11).mono ?_); rintro _ W12 ⟨rfl, B⟩; clear hi0 hi1 hi2 hi3 hj0 hj1 hj2 hj3 hk0 hk1 hk2 hk3 hm0 hm1 hm2 hm3 hp0 hp1 hp2 hp3 hq0 hq1 hq2 hq3; replace D0 := IAt.on D0 B; replace D1 := IAt.on D1 B; replace D4 := IAt.on D4 B; replace D5 := IAt.on D5 B; replace D10 := IAt.on D10 B; replace D11 := IAt.on D11 B; replace r0 := cell_below B r0; replace r1 := cell_below B r1; replace r2 := cell_below B r2; replace r3 := cell_below B r3; replace r4 := cell_below B r4; replace r5 := cell_below B r5; replace K8 := K8.on B; replace K9 := K9.on B; replace K10 := K10.on B; replace K11 := K11.on B; replace BB := bon BB B; clear B; have hi0 := D0.1; have hi1 := D0.2.1; have hi2 := D0.2.2.1; have hi3 := D0.2.2.2; have hj0 := D1.1; have hj1 := D1.2.1; have hj2 := D1.2.2.1; have hj3 := D1.2.2.2; have hk0 := D4.1; have hk1 := D4.2.1; have hk2 := D4.2.2.1; have hk3 := D4.2.2.2; have hm0 := D5.1; have hm1 := D5.2.1; have hm2 := D5.2.2.1; have hm3 := D5.2.2.2; have hp0 := D10.1; have hp1 := D10.2.1; have hp2 := D10.2.2.1; have hp3 := D10.2.2.2; have hq0 := D11.1; have hq1 := D11.2.1; have hq2 := D11.2.2.1; have hq3 := D11.2.2.2)
      | (go_at_call 17; (with_reducible refine (riequal_b f wd ht A A8 n n c c8 l _ (BK.out _ BB) K8).mono ?_); rintro _ W13 ⟨rfl, B⟩; clear hi0 hi1 hi2 hi3 hj0 hj1 hj2 hj3 hk0 hk1 hk2 hk3 hm0 hm1 hm2 hm3 hp0 hp1 hp2 hp3 hq0 hq1 hq2 hq3; replace D0 := IAt.on D0 B; replace D1 := IAt.on D1 B; replace D4 := IAt.on D4 B; replace D5 := IAt.on D5 B; replace D10 := IAt.on D10 B; replace D11 := IAt.on D11 B; replace r0 := cell_below B r0; replace r1 := cell_below B r1; replace r2 := cell_below B r2; replace r3 := cell_below B r3; replace r4 := cell_below B r4; replace r5 := cell_below B r5; replace K8 := K8.on B; replace K9 := K9.on B; replace K10 := K10.on B; replace K11 := K11.on B; replace BB := bon BB B; clear B; have hi0 := D0.1; have hi1 := D0.2.1; have hi2 := D0.2.2.1; have hi3 := D0.2.2.2; have hj0 := D1.1; have hj1 := D1.2.1; have hj2 := D1.2.2.1; have hj3 := D1.2.2.2; have hk0 := D4.1; have hk1 := D4.2.1; have hk2 := D4.2.2.1; have hk3 := D4.2.2.2; have hm0 := D5.1; have hm1 := D5.2.1; have hm2 := D5.2.2.1; have hm3 := D5.2.2.2; have hp0 := D10.1; have hp1 := D10.2.1; have hp2 := D10.2.2.1; have hp3 := D10.2.2.2; have hq0 := D11.1; have hq1 := D11.2.1; have hq2 := D11.2.2.1; have hq3 := D11.2.2.2)
      | (go_at_call 17; (with_reducible refine (riequal_b f2 wd2 ht2 A2 A9 n2 n2 c2 c9 l2 _ (BK2.out _ BB) K9).mono ?_); rintro _ W14 ⟨rfl, B⟩; clear hi0 hi1 hi2 hi3 hj0 hj1 hj2 hj3 hk0 hk1 hk2 hk3 hm0 hm1 hm2 hm3 hp0 hp1 hp2 hp3 hq0 hq1 hq2 hq3; replace D0 := IAt.on D0 B; replace D1 := IAt.on D1 B; replace D4 := IAt.on D4 B; replace D5 := IAt.on D5 B; replace D10 := IAt.on D10 B; replace D11 := IAt.on D11 B; replace r0 := cell_below B r0; replace r1 := cell_below B r1; replace r2 := cell_below B r2; replace r3 := cell_below B r3; replace r4 := cell_below B r4; replace r5 := cell_below B r5; replace K8 := K8.on B; replace K9 := K9.on B; replace K10 := K10.on B; replace K11 := K11.on B; replace BB := bon BB B; clear B; have hi0 := D0.1; have hi1 := D0.2.1; have hi2 := D0.2.2.1; have hi3 := D0.2.2.2; have hj0 := D1.1; have hj1 := D1.2.1; have hj2 := D1.2.2.1; have hj3 := D1.2.2.2; have hk0 := D4.1; have hk1 := D4.2.1; have hk2 := D4.2.2.1; have hk3 := D4.2.2.2; have hm0 := D5.1; have hm1 := D5.2.1; have hm2 := D5.2.2.1; have hm3 := D5.2.2.2; have hp0 := D10.1; have hp1 := D10.2.1; have hp2 := D10.2.2.1; have hp3 := D10.2.2.2; have hq0 := D11.1; have hq1 := D11.2.1; have hq2 := D11.2.2.1; have hq3 := D11.2.2.2)
      | (go_at_call 20; (with_reducible refine (iexample_b _).mono ?_); rintro _ W15 ⟨rfl, B⟩; replace BB := bon BB B))
    go_ret
    exact ⟨rfl, BB⟩

end Go.Proofs.Ytlnbkahpklnfaaa
