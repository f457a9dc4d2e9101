/- The walk of IsaEncodes (seat .ZD). -/
import Derived.Test.YtnhnbblplnhmlaaGreatDoorU10
import Derived.Test.YtnhnbblplnhmlaaGreatDoorU17
namespace Go.Proofs.YtnhnbblplnhmlaaGreatDoor
set_option linter.unusedSimpArgs false
open Go.RowKit Go.Sort Go.ChangeShapes Go.WideShapes
set_option linter.unusedVariables false

set_option maxRecDepth 100000 in
set_option maxHeartbeats 4000000 in
theorem encodes_walk (p : Pr) (A : Option Addr) (n c : Nat) (w : World) (LL : Lay6 w) (R : RdE inC 6 w w.heap.size A n p.cd) (hwf : ∀ x ∈ p.cd, x.wf) (hn : n ≤ 9223372036854775807) :
    Calls Tryz.prog 4 #[.agg (prA p A n c)] w fun e w' => e = .returned (.bool true) ∧ Below w.heap.size w w' := by
  have BB := box_below w (prA p A n c) 31
  have Epr := rngP w p A n c 31
  have c1 : ∀ W, Below w.heap.size w W → Calls Tryz.prog 10 #[.agg #[.int .i64 p.st, .int .i64 p.rg, .int .i64 p.ip, .int .i64 p.ou, .int .i64 p.un, .int .i64 p.tx, .int .i64 p.bf, .slice A n c]] W (GivesEnc p W) := fun W h => encode_b p A n c W ((R.below h).more h.size) hwf hn
  have c2 : ∀ W, Below w.heap.size w W → Calls Tryz.prog 11 #[.agg #[.int .i64 p.st, .int .i64 p.rg, .int .i64 p.ip, .int .i64 p.ou, .int .i64 p.un, .int .i64 p.tx, .int .i64 p.bf, .slice A n c]] W (GivesEnc p W) := fun W h => rencode_b p A n c W ((R.below h).more h.size) hwf hn
  unfold GivesEnc at c1 c2
  obtain ⟨er, her⟩ : ∃ er : Int, (if vald p = 0 then 0 else 17) = er := ⟨_, rfl⟩
  obtain ⟨L, hL⟩ : ∃ L : List Int, (if vald p = 0 then (flat p).flatMap encI else []) = L := ⟨_, rfl⟩
  rw [her, hL] at c1 c2
  have C1 := Lib.hid c1
  have C2 := Lib.hid c2
  have HX := Lib.hid (fun W (h : Below w.heap.size w W) => example_b W (LL.on h))
  clear c1 c2 her hL LL R hwf
  go_enter Tryz.func4, Tryz.ntmps4
  go_wp2_with (first
    | (with_reducible refine pload Epr rfl ?_; go_simp)
    | (go_at_call 10; (with_reducible refine (C1.out _ BB).mono ?_); rintro _ W2 ⟨A2, n2, d2, rfl, h2, R2, B2⟩; have Epr2 := rangeAt_on Epr B2; have BB2 := bon BB B2)
    | (with_reducible refine pload Epr2 rfl ?_; go_simp)
    | (go_at_call 11; (with_reducible refine (C2.out _ BB2).mono ?_); rintro _ W3 ⟨A3, n3, d3, rfl, h3, R3, B3⟩; have R4 := R2.on B3; have BB3 := bon BB2 B3)
    | (go_at_call 12; (with_reducible refine (same_b A2 A3 n2 n3 d2 d3 _ _ L _ R4 R3 (Nat.le_refl _) (Nat.le_refl _) (by omega)).mono ?_); rintro _ _ ⟨rfl, B⟩; replace BB3 := bon BB3 B; clear B)
    | (go_at_call 9; (with_reducible refine (HX.out _ BB3).mono ?_); rintro _ _ ⟨rfl, B⟩; replace BB3 := bon BB3 B; clear B))
  go_ret
  exact ⟨rfl, BB3⟩

end Go.Proofs.YtnhnbblplnhmlaaGreatDoor
