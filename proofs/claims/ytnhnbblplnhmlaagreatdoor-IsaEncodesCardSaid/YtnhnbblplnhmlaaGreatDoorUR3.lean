/- The reference: Validate. Written by tools/gen/genUR3.py. -/
import Derived.Test.YtnhnbblplnhmlaaGreatDoorUR2
import Derived.Test.YtnhnbblplnhmlaaGreatDoorU6
namespace Go.Proofs.YtnhnbblplnhmlaaGreatDoor
set_option linter.unusedSimpArgs false
open Go.RowKit Go.Sort Go.ChangeShapes Go.WideShapes
set_option linter.unusedVariables false

theorem cnts_ways {p : Pr} (h : ¬ cnts p = true) : (p.rg < 0) ∨ (0 ≤ p.rg ∧ 8192 < p.rg) ∨ (0 ≤ p.rg ∧ p.rg ≤ 8192 ∧ p.ip < 0) ∨ (0 ≤ p.rg ∧ p.rg ≤ 8192 ∧ 0 ≤ p.ip ∧ 32 < p.ip) ∨ (0 ≤ p.rg ∧ p.rg ≤ 8192 ∧ 0 ≤ p.ip ∧ p.ip ≤ 32 ∧ p.ou < 0) ∨ (0 ≤ p.rg ∧ p.rg ≤ 8192 ∧ 0 ≤ p.ip ∧ p.ip ≤ 32 ∧ 0 ≤ p.ou ∧ 32 < p.ou) ∨ (0 ≤ p.rg ∧ p.rg ≤ 8192 ∧ 0 ≤ p.ip ∧ p.ip ≤ 32 ∧ 0 ≤ p.ou ∧ p.ou ≤ 32 ∧ p.un < 0) ∨ (0 ≤ p.rg ∧ p.rg ≤ 8192 ∧ 0 ≤ p.ip ∧ p.ip ≤ 32 ∧ 0 ≤ p.ou ∧ p.ou ≤ 32 ∧ 0 ≤ p.un ∧ 64 < p.un) ∨ (0 ≤ p.rg ∧ p.rg ≤ 8192 ∧ 0 ≤ p.ip ∧ p.ip ≤ 32 ∧ 0 ≤ p.ou ∧ p.ou ≤ 32 ∧ 0 ≤ p.un ∧ p.un ≤ 64 ∧ p.tx < 0) ∨ (0 ≤ p.rg ∧ p.rg ≤ 8192 ∧ 0 ≤ p.ip ∧ p.ip ≤ 32 ∧ 0 ≤ p.ou ∧ p.ou ≤ 32 ∧ 0 ≤ p.un ∧ p.un ≤ 64 ∧ 0 ≤ p.tx ∧ 4 < p.tx) ∨ (0 ≤ p.rg ∧ p.rg ≤ 8192 ∧ 0 ≤ p.ip ∧ p.ip ≤ 32 ∧ 0 ≤ p.ou ∧ p.ou ≤ 32 ∧ 0 ≤ p.un ∧ p.un ≤ 64 ∧ 0 ≤ p.tx ∧ p.tx ≤ 4 ∧ p.bf < 0) ∨ (0 ≤ p.rg ∧ p.rg ≤ 8192 ∧ 0 ≤ p.ip ∧ p.ip ≤ 32 ∧ 0 ≤ p.ou ∧ p.ou ≤ 32 ∧ 0 ≤ p.un ∧ p.un ≤ 64 ∧ 0 ≤ p.tx ∧ p.tx ≤ 4 ∧ 0 ≤ p.bf ∧ 4 < p.bf) := by
  simp only [cnts, wth, Bool.and_eq_true, decide_eq_true_eq] at h
  by_cases g0 : p.rg < 0
  · exact .inl g0
  have a0 : 0 ≤ p.rg := by omega
  by_cases e0 : 8192 < p.rg
  · exact .inr (.inl ⟨a0, e0⟩)
  have b0 : p.rg ≤ 8192 := by omega
  by_cases g1 : p.ip < 0
  · exact .inr (.inr (.inl ⟨a0, b0, g1⟩))
  have a1 : 0 ≤ p.ip := by omega
  by_cases e1 : 32 < p.ip
  · exact .inr (.inr (.inr (.inl ⟨a0, b0, a1, e1⟩)))
  have b1 : p.ip ≤ 32 := by omega
  by_cases g2 : p.ou < 0
  · exact .inr (.inr (.inr (.inr (.inl ⟨a0, b0, a1, b1, g2⟩))))
  have a2 : 0 ≤ p.ou := by omega
  by_cases e2 : 32 < p.ou
  · exact .inr (.inr (.inr (.inr (.inr (.inl ⟨a0, b0, a1, b1, a2, e2⟩)))))
  have b2 : p.ou ≤ 32 := by omega
  by_cases g3 : p.un < 0
  · exact .inr (.inr (.inr (.inr (.inr (.inr (.inl ⟨a0, b0, a1, b1, a2, b2, g3⟩))))))
  have a3 : 0 ≤ p.un := by omega
  by_cases e3 : 64 < p.un
  · exact .inr (.inr (.inr (.inr (.inr (.inr (.inr (.inl ⟨a0, b0, a1, b1, a2, b2, a3, e3⟩)))))))
  have b3 : p.un ≤ 64 := by omega
  by_cases g4 : p.tx < 0
  · exact .inr (.inr (.inr (.inr (.inr (.inr (.inr (.inr (.inl ⟨a0, b0, a1, b1, a2, b2, a3, b3, g4⟩))))))))
  have a4 : 0 ≤ p.tx := by omega
  by_cases e4 : 4 < p.tx
  · exact .inr (.inr (.inr (.inr (.inr (.inr (.inr (.inr (.inr (.inl ⟨a0, b0, a1, b1, a2, b2, a3, b3, a4, e4⟩)))))))))
  have b4 : p.tx ≤ 4 := by omega
  by_cases g5 : p.bf < 0
  · exact .inr (.inr (.inr (.inr (.inr (.inr (.inr (.inr (.inr (.inr (.inl ⟨a0, b0, a1, b1, a2, b2, a3, b3, a4, b4, g5⟩))))))))))
  have a5 : 0 ≤ p.bf := by omega
  by_cases e5 : 4 < p.bf
  · exact .inr (.inr (.inr (.inr (.inr (.inr (.inr (.inr (.inr (.inr (.inr (⟨a0, b0, a1, b1, a2, b2, a3, b3, a4, b4, a5, e5⟩)))))))))))
  exact absurd ⟨⟨⟨⟨⟨⟨a0, b0⟩, ⟨a1, b1⟩⟩, ⟨a2, b2⟩⟩, ⟨a3, b3⟩⟩, ⟨a4, b4⟩⟩, ⟨a5, by omega⟩⟩ h

theorem cnts_yes {p : Pr} (h : cnts p = true) : 0 ≤ p.rg ∧ p.rg ≤ 8192 ∧ 0 ≤ p.ip ∧ p.ip ≤ 32 ∧ 0 ≤ p.ou ∧ p.ou ≤ 32 ∧ 0 ≤ p.un ∧ p.un ≤ 64 ∧ 0 ≤ p.tx ∧ p.tx ≤ 4 ∧ 0 ≤ p.bf ∧ p.bf ≤ 4 := by
  simp only [cnts, wth, Bool.and_eq_true, decide_eq_true_eq] at h
  omega

set_option maxRecDepth 100000 in
theorem rval_no0 (p : Pr) (A : Option Addr) (n c : Nat) (w : World) (h1 : 1 ≤ p.st ∧ p.st ≤ 3) (h : p.rg < 0) : Calls Tryz.prog 33 #[.agg (prA p A n c)] w fun e w' => e = .returned (.int .i64 6) ∧ Below w.heap.size w w' := by
  obtain ⟨c0, c1, c2, c3, c4, c5, c6, c7, BB⟩ := boxP w p A n c 31
  go_enter Tryz.func33, Tryz.ntmps33
  go_wp2
  go_ret
  exact ⟨rfl, BB⟩

set_option maxRecDepth 100000 in
theorem rval_no1 (p : Pr) (A : Option Addr) (n c : Nat) (w : World) (h1 : 1 ≤ p.st ∧ p.st ≤ 3) (h : 0 ≤ p.rg ∧ 8192 < p.rg) : Calls Tryz.prog 33 #[.agg (prA p A n c)] w fun e w' => e = .returned (.int .i64 6) ∧ Below w.heap.size w w' := by
  obtain ⟨c0, c1, c2, c3, c4, c5, c6, c7, BB⟩ := boxP w p A n c 31
  obtain ⟨q0, q1⟩ := h
  go_enter Tryz.func33, Tryz.ntmps33
  go_wp2
  go_ret
  exact ⟨rfl, BB⟩

set_option maxRecDepth 100000 in
theorem rval_no2 (p : Pr) (A : Option Addr) (n c : Nat) (w : World) (h1 : 1 ≤ p.st ∧ p.st ≤ 3) (h : 0 ≤ p.rg ∧ p.rg ≤ 8192 ∧ p.ip < 0) : Calls Tryz.prog 33 #[.agg (prA p A n c)] w fun e w' => e = .returned (.int .i64 6) ∧ Below w.heap.size w w' := by
  obtain ⟨c0, c1, c2, c3, c4, c5, c6, c7, BB⟩ := boxP w p A n c 31
  obtain ⟨q0, q1, q2⟩ := h
  go_enter Tryz.func33, Tryz.ntmps33
  go_wp2
  go_ret
  exact ⟨rfl, BB⟩

set_option maxRecDepth 100000 in
theorem rval_no3 (p : Pr) (A : Option Addr) (n c : Nat) (w : World) (h1 : 1 ≤ p.st ∧ p.st ≤ 3) (h : 0 ≤ p.rg ∧ p.rg ≤ 8192 ∧ 0 ≤ p.ip ∧ 32 < p.ip) : Calls Tryz.prog 33 #[.agg (prA p A n c)] w fun e w' => e = .returned (.int .i64 6) ∧ Below w.heap.size w w' := by
  obtain ⟨c0, c1, c2, c3, c4, c5, c6, c7, BB⟩ := boxP w p A n c 31
  obtain ⟨q0, q1, q2, q3⟩ := h
  go_enter Tryz.func33, Tryz.ntmps33
  go_wp2
  go_ret
  exact ⟨rfl, BB⟩

set_option maxRecDepth 100000 in
theorem rval_no4 (p : Pr) (A : Option Addr) (n c : Nat) (w : World) (h1 : 1 ≤ p.st ∧ p.st ≤ 3) (h : 0 ≤ p.rg ∧ p.rg ≤ 8192 ∧ 0 ≤ p.ip ∧ p.ip ≤ 32 ∧ p.ou < 0) : Calls Tryz.prog 33 #[.agg (prA p A n c)] w fun e w' => e = .returned (.int .i64 6) ∧ Below w.heap.size w w' := by
  obtain ⟨c0, c1, c2, c3, c4, c5, c6, c7, BB⟩ := boxP w p A n c 31
  obtain ⟨q0, q1, q2, q3, q4⟩ := h
  go_enter Tryz.func33, Tryz.ntmps33
  go_wp2
  go_ret
  exact ⟨rfl, BB⟩

set_option maxRecDepth 100000 in
theorem rval_no5 (p : Pr) (A : Option Addr) (n c : Nat) (w : World) (h1 : 1 ≤ p.st ∧ p.st ≤ 3) (h : 0 ≤ p.rg ∧ p.rg ≤ 8192 ∧ 0 ≤ p.ip ∧ p.ip ≤ 32 ∧ 0 ≤ p.ou ∧ 32 < p.ou) : Calls Tryz.prog 33 #[.agg (prA p A n c)] w fun e w' => e = .returned (.int .i64 6) ∧ Below w.heap.size w w' := by
  obtain ⟨c0, c1, c2, c3, c4, c5, c6, c7, BB⟩ := boxP w p A n c 31
  obtain ⟨q0, q1, q2, q3, q4, q5⟩ := h
  go_enter Tryz.func33, Tryz.ntmps33
  go_wp2
  go_ret
  exact ⟨rfl, BB⟩

set_option maxRecDepth 100000 in
theorem rval_no6 (p : Pr) (A : Option Addr) (n c : Nat) (w : World) (h1 : 1 ≤ p.st ∧ p.st ≤ 3) (h : 0 ≤ p.rg ∧ p.rg ≤ 8192 ∧ 0 ≤ p.ip ∧ p.ip ≤ 32 ∧ 0 ≤ p.ou ∧ p.ou ≤ 32 ∧ p.un < 0) : Calls Tryz.prog 33 #[.agg (prA p A n c)] w fun e w' => e = .returned (.int .i64 6) ∧ Below w.heap.size w w' := by
  obtain ⟨c0, c1, c2, c3, c4, c5, c6, c7, BB⟩ := boxP w p A n c 31
  obtain ⟨q0, q1, q2, q3, q4, q5, q6⟩ := h
  go_enter Tryz.func33, Tryz.ntmps33
  go_wp2
  go_ret
  exact ⟨rfl, BB⟩

set_option maxRecDepth 100000 in
theorem rval_no7 (p : Pr) (A : Option Addr) (n c : Nat) (w : World) (h1 : 1 ≤ p.st ∧ p.st ≤ 3) (h : 0 ≤ p.rg ∧ p.rg ≤ 8192 ∧ 0 ≤ p.ip ∧ p.ip ≤ 32 ∧ 0 ≤ p.ou ∧ p.ou ≤ 32 ∧ 0 ≤ p.un ∧ 64 < p.un) : Calls Tryz.prog 33 #[.agg (prA p A n c)] w fun e w' => e = .returned (.int .i64 6) ∧ Below w.heap.size w w' := by
  obtain ⟨c0, c1, c2, c3, c4, c5, c6, c7, BB⟩ := boxP w p A n c 31
  obtain ⟨q0, q1, q2, q3, q4, q5, q6, q7⟩ := h
  go_enter Tryz.func33, Tryz.ntmps33
  go_wp2
  go_ret
  exact ⟨rfl, BB⟩

set_option maxRecDepth 100000 in
theorem rval_no8 (p : Pr) (A : Option Addr) (n c : Nat) (w : World) (h1 : 1 ≤ p.st ∧ p.st ≤ 3) (h : 0 ≤ p.rg ∧ p.rg ≤ 8192 ∧ 0 ≤ p.ip ∧ p.ip ≤ 32 ∧ 0 ≤ p.ou ∧ p.ou ≤ 32 ∧ 0 ≤ p.un ∧ p.un ≤ 64 ∧ p.tx < 0) : Calls Tryz.prog 33 #[.agg (prA p A n c)] w fun e w' => e = .returned (.int .i64 6) ∧ Below w.heap.size w w' := by
  obtain ⟨c0, c1, c2, c3, c4, c5, c6, c7, BB⟩ := boxP w p A n c 31
  obtain ⟨q0, q1, q2, q3, q4, q5, q6, q7, q8⟩ := h
  go_enter Tryz.func33, Tryz.ntmps33
  go_wp2
  go_ret
  exact ⟨rfl, BB⟩

set_option maxRecDepth 100000 in
theorem rval_no9 (p : Pr) (A : Option Addr) (n c : Nat) (w : World) (h1 : 1 ≤ p.st ∧ p.st ≤ 3) (h : 0 ≤ p.rg ∧ p.rg ≤ 8192 ∧ 0 ≤ p.ip ∧ p.ip ≤ 32 ∧ 0 ≤ p.ou ∧ p.ou ≤ 32 ∧ 0 ≤ p.un ∧ p.un ≤ 64 ∧ 0 ≤ p.tx ∧ 4 < p.tx) : Calls Tryz.prog 33 #[.agg (prA p A n c)] w fun e w' => e = .returned (.int .i64 6) ∧ Below w.heap.size w w' := by
  obtain ⟨c0, c1, c2, c3, c4, c5, c6, c7, BB⟩ := boxP w p A n c 31
  obtain ⟨q0, q1, q2, q3, q4, q5, q6, q7, q8, q9⟩ := h
  go_enter Tryz.func33, Tryz.ntmps33
  go_wp2
  go_ret
  exact ⟨rfl, BB⟩

set_option maxRecDepth 100000 in
theorem rval_no10 (p : Pr) (A : Option Addr) (n c : Nat) (w : World) (h1 : 1 ≤ p.st ∧ p.st ≤ 3) (h : 0 ≤ p.rg ∧ p.rg ≤ 8192 ∧ 0 ≤ p.ip ∧ p.ip ≤ 32 ∧ 0 ≤ p.ou ∧ p.ou ≤ 32 ∧ 0 ≤ p.un ∧ p.un ≤ 64 ∧ 0 ≤ p.tx ∧ p.tx ≤ 4 ∧ p.bf < 0) : Calls Tryz.prog 33 #[.agg (prA p A n c)] w fun e w' => e = .returned (.int .i64 6) ∧ Below w.heap.size w w' := by
  obtain ⟨c0, c1, c2, c3, c4, c5, c6, c7, BB⟩ := boxP w p A n c 31
  obtain ⟨q0, q1, q2, q3, q4, q5, q6, q7, q8, q9, q10⟩ := h
  go_enter Tryz.func33, Tryz.ntmps33
  go_wp2
  go_ret
  exact ⟨rfl, BB⟩

set_option maxRecDepth 100000 in
theorem rval_no11 (p : Pr) (A : Option Addr) (n c : Nat) (w : World) (h1 : 1 ≤ p.st ∧ p.st ≤ 3) (h : 0 ≤ p.rg ∧ p.rg ≤ 8192 ∧ 0 ≤ p.ip ∧ p.ip ≤ 32 ∧ 0 ≤ p.ou ∧ p.ou ≤ 32 ∧ 0 ≤ p.un ∧ p.un ≤ 64 ∧ 0 ≤ p.tx ∧ p.tx ≤ 4 ∧ 0 ≤ p.bf ∧ 4 < p.bf) : Calls Tryz.prog 33 #[.agg (prA p A n c)] w fun e w' => e = .returned (.int .i64 6) ∧ Below w.heap.size w w' := by
  obtain ⟨c0, c1, c2, c3, c4, c5, c6, c7, BB⟩ := boxP w p A n c 31
  obtain ⟨q0, q1, q2, q3, q4, q5, q6, q7, q8, q9, q10, q11⟩ := h
  go_enter Tryz.func33, Tryz.ntmps33
  go_wp2
  go_ret
  exact ⟨rfl, BB⟩

set_option maxRecDepth 100000 in
set_option maxHeartbeats 4000000 in
theorem rvalidateL_b (p : Pr) (A : Option Addr) (n c : Nat) (w : World) (R : RdE inC 6 w w.heap.size A n p.cd) (h1 : 1 ≤ p.st ∧ p.st ≤ 3) (h2 : cnts p = true) (h3 : n ≤ 16384) :
    Calls Tryz.prog 33 #[.agg (prA p A n c)] w fun e w' => e = .returned (.int .i64 (ckL p p.cd [])) ∧ Below w.heap.size w w' := by
  obtain ⟨c0, c1, c2, c3, c4, c5, c6, c7, BB⟩ := boxP w p A n c 31
  have E0 := rngP w p A n c 31
  obtain ⟨q0, q1, q2, q3, q4, q5, q6, q7, q8, q9, q10, q11⟩ := cnts_yes h2
  obtain ⟨G, hG⟩ : ∃ G, ckL p p.cd [] = G := ⟨_, rfl⟩
  rw [hG]
  have HG := Lib.hid hG
  have HR := Lib.hid R
  have HN := Lib.hid R.len
  have H2 := Lib.hid h2
  have own0 := Own.made (w.alloc (.cells (prA p A n c) 31)) 3 .i64
  have s2 : (w.alloc (.cells (prA p A n c) 31)).heap.size = w.heap.size + 1 := by simp
  rw [s2] at own0
  have B2 := box_below (w.alloc (.cells (prA p A n c) 31)) #[] 3
  have HK := Lib.hid own0.rd
  have a0 := cell_below B2 c0
  have a7 := cell_below B2 c7
  have F0 := rangeAt_on E0 B2
  have BB2 := bon BB B2
  clear h2 hG R own0 s2 B2
  go_enter Tryz.func33, Tryz.ntmps33
  go_wp2
  clear c0 c1 c2 c3 c4 c5 c6 c7 E0 BB
  obtain ⟨U, hU⟩ : ∃ U, (w.alloc (.cells (prA p A n c) 31)).alloc (.cells #[] 3) = U := ⟨_, rfl⟩
  rw [hU] at a0 a7 F0 HK BB2 ⊢
  clear hU
  go_loopw [3, 4] (fun o i wr => ∃ (k : Nat) (s : List Int) (A1 : Option Addr) (n1 d1 : Nat), k ≤ n ∧ i = .int .i64 (k : Int) ∧ o = .slice A1 n1 d1 ∧ n1 ≤ d1 ∧ Rd wr wr.heap.size .i64 A1 n1 s ∧ Kn s ∧ s.length ≤ k ∧ ckL p (p.cd.drop k) s = G ∧ wr.cell? ⟨w.heap.size, 0, none⟩ = some (.int .i64 p.st) ∧ wr.cell? ⟨w.heap.size, 7, none⟩ = some (.slice A n c) ∧ wr.rangeAt w.heap.size 0 (prA p A n c).toList ∧ Below w.heap.size w wr) (fun _ i _ => n - (intOf i).toNat)
  case atStart => exact ⟨0, [], _, _, _, Nat.zero_le _, rfl, rfl, Nat.le_refl _, HK.out, by simp [Kn], by simp, HG.out, a0, a7, F0, BB2⟩
  case round =>
    obtain ⟨k, s, A1, n1, d1, hk, rfl, rfl, hnd, K1, hkn, hsl, hG, c0, c7, E0, BB⟩ := hrel
    clear a0 a7 F0 HK BB2
    have hl1 := K1.len
    by_cases hlt : k < n
    · have R1 := HR.out.below BB
      obtain ⟨b1, o1, x, rfl, hb1, E1, hx⟩ := R1.at_ hlt
      have CV := Lib.hid (fun W => rvalid22_q x.o W)
      have CU := Lib.hid (fun W => runused_b x W)
      have co : ∀ W, Calls Tryz.prog 77 #[.agg #[.int .i64 p.st, .int .i64 p.rg, .int .i64 p.ip, .int .i64 p.ou, .int .i64 p.un, .int .i64 p.tx, .int .i64 p.bf, .slice (some ⟨b1, o1, none⟩) n c], .agg (inA x)] W fun e w' => e = .returned (.bool (!(regs p.rg x && immO p x.o x.i))) ∧ Below W.heap.size W w' := fun W => routside_b p (some ⟨b1, o1, none⟩) n c x W H2.out
      have CO := Lib.hid co
      clear co
      have CN := Lib.hid (fun W K => rnext_b p.st x.o A1 n1 d1 s W K hnd (by omega) hkn)
      have HC := Lib.hid (fun (t : List Int) (h : stp p.st x.o s = some t) => stp_kn hkn h)
      have HY := Lib.hid (fun (e : Int) (h : e ≠ 0) (hc : ck1 p x s = (e, s)) => ckL_off hG hx.out hc h)
      have HX := Lib.hid (fun (t : List Int) (hc : ck1 p x s = (0, t)) => ckL_on hG hx.out hc)
      have hs1 : s.length ≤ 16384 := by omega
      clear R1 hG hkn hx
      rcases ck1_ways p x s with ⟨g1, hr⟩ | ⟨g1, g2, hr⟩ | ⟨g1, g2, g3, hr⟩ | ⟨g1, g2, g3, g4, g5, hr⟩ | ⟨t, g1, g2, g3, g4, g5, hr⟩
      case' inr.inr.inl => have g3' : (regs p.rg x && immO p x.o x.i) = false := by rcases g3 with g | ⟨g, g'⟩ <;> simp [g, *]
      case' inr.inr.inr.inl => have g3' : (regs p.rg x && immO p x.o x.i) = true := by simp [g3, g4]
      case' inr.inr.inr.inr => have g3' : (regs p.rg x && immO p x.o x.i) = true := by simp [g3, g4]
      all_goals
        have H9 := Lib.hid hr
        try rw [g1] at CV
        try rw [g2] at CU
        try rw [g3'] at CO
        try (have G5 := Lib.hid g5; rw [g5] at CN)
        try simp only [Bool.not_true, Bool.not_false, Option.isSome_none, Option.isSome_some] at CU
        try simp only [Bool.not_true, Bool.not_false] at CO
        clear hr
        try clear g1
        try clear g2
        try clear g3
        try clear g3'
        try clear g4
        try clear g5
      case inr.inr.inr.inr =>
        go_wp2_with (first
        | (with_reducible refine iload E1 rfl ?_; go_simp)
        | ((with_reducible refine istore rfl rfl ?_); have E2 := rngI wr x 24; have d0 := (boxI wr x 24).1; have B := box_below wr (inA x) 24; (replace BB := bon BB B; replace c0 := cell_below B c0; replace c7 := cell_below B c7; replace E0 := rangeAt_on E0 B; replace K1 := Rd.on K1 B); clear B; go_simp)
        | (with_reducible refine iload E2 rfl ?_; go_simp)
        | (with_reducible refine pload E0 rfl ?_; go_simp)
        | (go_at_call 75; (with_reducible refine (CV.out _).mono ?_); rintro _ _ ⟨rfl, rfl⟩)
        | (go_at_call 76; (with_reducible refine (CU.out _).mono ?_); rintro _ _ ⟨rfl, B⟩; (replace BB := bon BB B; replace c0 := cell_below B c0; replace c7 := cell_below B c7; replace d0 := cell_below B d0; replace E0 := rangeAt_on E0 B; replace E2 := rangeAt_on E2 B; replace K1 := Rd.on K1 B); clear B)
        | (go_at_call 77; (with_reducible refine (CO.out _).mono ?_); rintro _ _ ⟨rfl, B⟩; (replace BB := bon BB B; replace c0 := cell_below B c0; replace c7 := cell_below B c7; replace d0 := cell_below B d0; replace E0 := rangeAt_on E0 B; replace E2 := rangeAt_on E2 B; replace K1 := Rd.on K1 B); clear B)
        | (go_at_call 78; (with_reducible refine (CN.out _ K1).mono ?_); rintro _ W9 ⟨A9, n9, c9, rfl, B, hc9, hR9⟩; have R9 := Lib.hid hR9; clear hR9; (replace BB := bon BB B; replace c0 := cell_below B c0; replace c7 := cell_below B c7; replace d0 := cell_below B d0; replace E0 := rangeAt_on E0 B; replace E2 := rangeAt_on E2 B; replace K1 := Rd.on K1 B); clear B))
        go_roundw
        case rel => exact ⟨k + 1, t, A9, n9, c9, by omega, by go_num, rfl, hc9, R9.out t rfl, (HC.out t G5.out).1, by have := (HC.out t G5.out).2; omega, HX.out t H9.out, c0, c7, E0, BB⟩
        case measure => simp [intOf]; omega
      all_goals
        go_wp2_with (first
        | (with_reducible refine iload E1 rfl ?_; go_simp)
        | ((with_reducible refine istore rfl rfl ?_); have E2 := rngI wr x 24; have d0 := (boxI wr x 24).1; have B := box_below wr (inA x) 24; (replace BB := bon BB B; replace c0 := cell_below B c0; replace c7 := cell_below B c7; replace E0 := rangeAt_on E0 B; replace K1 := Rd.on K1 B); clear B; go_simp)
        | (with_reducible refine iload E2 rfl ?_; go_simp)
        | (with_reducible refine pload E0 rfl ?_; go_simp)
        | (go_at_call 75; (with_reducible refine (CV.out _).mono ?_); rintro _ _ ⟨rfl, rfl⟩)
        | (go_at_call 76; (with_reducible refine (CU.out _).mono ?_); rintro _ _ ⟨rfl, B⟩; (replace BB := bon BB B; replace c0 := cell_below B c0; replace c7 := cell_below B c7; replace d0 := cell_below B d0; replace E0 := rangeAt_on E0 B; replace E2 := rangeAt_on E2 B; replace K1 := Rd.on K1 B); clear B)
        | (go_at_call 77; (with_reducible refine (CO.out _).mono ?_); rintro _ _ ⟨rfl, B⟩; (replace BB := bon BB B; replace c0 := cell_below B c0; replace c7 := cell_below B c7; replace d0 := cell_below B d0; replace E0 := rangeAt_on E0 B; replace E2 := rangeAt_on E2 B; replace K1 := Rd.on K1 B); clear B)
        | (go_at_call 78; (with_reducible refine (CN.out _ K1).mono ?_); rintro _ W9 ⟨A9, n9, c9, rfl, B, hc9, hR9⟩; have R9 := Lib.hid hR9; clear hR9; (replace BB := bon BB B; replace c0 := cell_below B c0; replace c7 := cell_below B c7; replace d0 := cell_below B d0; replace E0 := rangeAt_on E0 B; replace E2 := rangeAt_on E2 B; replace K1 := Rd.on K1 B); clear B))
        go_ret
        exact ⟨ret_i64' (HY.out _ (by decide) H9.out), BB⟩
    · obtain rfl : k = n := by omega
      rw [List.drop_eq_nil_of_le (by rw [HN.out]; exact Nat.le_refl _), ckL] at hG
      by_cases h0 : s.length = 0
      · rw [if_pos h0] at hG
        subst hG
        obtain rfl : n1 = 0 := by omega
        go_wp2
        go_ret
        exact ⟨rfl, BB⟩
      · rw [if_neg h0] at hG
        subst hG
        obtain ⟨m, rfl⟩ : ∃ m, n1 = m + 1 := ⟨n1 - 1, by omega⟩
        have hm : m ≤ 16384 := by omega
        go_wp2
        go_ret
        exact ⟨rfl, BB⟩

theorem rvalidate_b (p : Pr) (A : Option Addr) (n c : Nat) (w : World) (R : RdE inC 6 w w.heap.size A n p.cd) (hn : n ≤ 9223372036854775807) :
    Calls Tryz.prog 33 #[.agg (prA p A n c)] w fun e w' => e = .returned (.int .i64 (vald p)) ∧ Below w.heap.size w w' := by
  have hl := R.len
  unfold vald
  by_cases h1 : wth p.st 1 3 = true
  · rw [if_pos h1]
    have hst : 1 ≤ p.st ∧ p.st ≤ 3 := by simpa [wth] using h1
    by_cases h2 : cnts p = true
    · rw [if_pos h2]
      by_cases h3 : (p.cd.length : Int) ≤ 16384
      · rw [if_pos h3]
        exact rvalidateL_b p A n c w R hst h2 (by omega)
      · rw [if_neg h3]
        have h4 : 16384 < n := by omega
        obtain ⟨q0, q1, q2, q3, q4, q5, q6, q7, q8, q9, q10, q11⟩ := cnts_yes h2
        obtain ⟨c0, c1, c2, c3, c4, c5, c6, c7, BB⟩ := boxP w p A n c 31
        clear h1 h2 h3 R hl
        go_enter Tryz.func33, Tryz.ntmps33
        go_wp2
        go_ret
        exact ⟨rfl, BB⟩
    · rw [if_neg h2]
      rcases cnts_ways h2 with h | h | h | h | h | h | h | h | h | h | h | h
      · exact rval_no0 p A n c w hst h
      · exact rval_no1 p A n c w hst h
      · exact rval_no2 p A n c w hst h
      · exact rval_no3 p A n c w hst h
      · exact rval_no4 p A n c w hst h
      · exact rval_no5 p A n c w hst h
      · exact rval_no6 p A n c w hst h
      · exact rval_no7 p A n c w hst h
      · exact rval_no8 p A n c w hst h
      · exact rval_no9 p A n c w hst h
      · exact rval_no10 p A n c w hst h
      · exact rval_no11 p A n c w hst h
  · rw [if_neg h1]
    have hst : p.st < 1 ∨ 3 < p.st := by
      simp [wth] at h1
      omega
    obtain ⟨c0, c1, c2, c3, c4, c5, c6, c7, BB⟩ := boxP w p A n c 31
    clear h1 R hl
    rcases hst with h | h
    all_goals
      go_enter Tryz.func33, Tryz.ntmps33
      go_wp2
      all_goals
        go_ret
        exact ⟨rfl, BB⟩

end Go.Proofs.YtnhnbblplnhmlaaGreatDoor
