/- The walk of SamplerNearest: its cases together. Written by tools/gen/genS15.py. -/
import Derived.Test.YtoipmldbjciinaaS15a
import Derived.Test.YtoipmldbjciinaaS15b
import Derived.Test.YtoipmldbjciinaaS15c
import Derived.Test.YtoipmldbjciinaaS15d
namespace Go.Proofs.Ytoipmldbjciinaa
open Go.RowKit Go.Sort

theorem four_ne {x y : Nat → Int} (h : ¬ ∀ i, i < 4 → x i = y i) : ¬ x 0 = y 0 ∨ (x 0 = y 0 ∧ ¬ x 1 = y 1) ∨ (x 0 = y 0 ∧ x 1 = y 1 ∧ ¬ x 2 = y 2) ∨ (x 0 = y 0 ∧ x 1 = y 1 ∧ x 2 = y 2 ∧ ¬ x 3 = y 3) := by
  by_cases k0 : x 0 = y 0
  · by_cases k1 : x 1 = y 1
    · by_cases k2 : x 2 = y 2
      · by_cases k3 : x 3 = y 3
        · exact absurd (fun i (hi : i < 4) => (match i, hi with | 0, _ => k0 | 1, _ => k1 | 2, _ => k2 | 3, _ => k3 : x i = y i)) h
        · exact .inr (.inr (.inr ⟨k0, k1, k2, k3⟩))
      · exact .inr (.inr (.inl ⟨k0, k1, k2⟩))
    · exact .inr (.inl ⟨k0, k1⟩)
  · exact .inl k0

theorem nearest_walk (A : Option Addr) (n c : Nat) (ts : List Tx) (s : Nat → Int) (u v k l : Int) (w : World) (R : RdI w w.heap.size A n ts) (hn : n ≤ 9223372036854775807) :
    Calls Try.prog 5 #[.agg #[.slice A n c], .agg (smps s), .agg #[.int .i64 u, .int .i64 v, .int .i64 k, .int .i64 l]] w fun e w' => e = .returned (.bool true) ∧ Below w.heap.size w w' := by
  by_cases hs : SV s
  rotate_left
  · exact nearest_inv A n c ts s u v k l w R hn hs
  by_cases h0 : n = 0
  · exact nearest_none A n c ts s u v k l w R hn hs h0
  have hp : 0 < n := by omega
  by_cases h64 : 64 < (lvl ts 0).w
  · exact nearest_wide A n c ts s u v k l w R hn hs hp _ rfl h64
  by_cases k64 : 64 < (lvl ts 0).h
  · exact nearest_high A n c ts s u v k l w R hn hs hp _ _ rfl rfl h64 k64
  by_cases hz : ∀ i, i < 4 → slv ts s u v 0 1 i = (fun _ => (0 : Int)) i
  · exact nearest_zero A n c ts s u v k l w R hn hs hp _ _ rfl rfl h64 k64 _ rfl (hz 0 (by omega)) (hz 1 (by omega)) (hz 2 (by omega)) (hz 3 (by omega))
  have hcan : can ts s 0 := by
    by_cases h : can ts s 0
    · exact h
    · exact absurd (fun i _ => slv_no h i) hz
  rcases four_ne hz with y0 | ⟨y0, y1⟩ | ⟨y0, y1, y2⟩ | ⟨y0, y1, y2, y3⟩
  · by_cases m0 : s 0 = 4
    · by_cases hb : ∀ i, i < 4 → slv ts s u v 0 1 i = (fun i => s (5 + i)) i
      · exact nearest_0_ae A n c ts s u v k l w R hn hs hp _ _ rfl rfl h64 k64 _ rfl y0 m0 (hb 0 (by omega)) (hb 1 (by omega)) (hb 2 (by omega)) (hb 3 (by omega))
      · rcases four_ne hb with x0 | ⟨x0, x1⟩ | ⟨x0, x1, x2⟩ | ⟨x0, x1, x2, x3⟩
        · exact nearest_0_a0 A n c ts s u v k l w R hn hs hp _ _ rfl rfl h64 k64 hcan _ rfl y0 m0 x0
        · exact nearest_0_a1 A n c ts s u v k l w R hn hs hp _ _ rfl rfl h64 k64 hcan _ rfl y0 m0 x0 x1
        · exact nearest_0_a2 A n c ts s u v k l w R hn hs hp _ _ rfl rfl h64 k64 hcan _ rfl y0 m0 x0 x1 x2
        · exact nearest_0_a3 A n c ts s u v k l w R hn hs hp _ _ rfl rfl h64 k64 hcan _ rfl y0 m0 x0 x1 x2 x3
    · by_cases m1 : s 1 = 4
      · by_cases hb : ∀ i, i < 4 → slv ts s u v 0 1 i = (fun i => s (5 + i)) i
        · exact nearest_0_be A n c ts s u v k l w R hn hs hp _ _ rfl rfl h64 k64 _ rfl y0 m0 m1 (hb 0 (by omega)) (hb 1 (by omega)) (hb 2 (by omega)) (hb 3 (by omega))
        · rcases four_ne hb with x0 | ⟨x0, x1⟩ | ⟨x0, x1, x2⟩ | ⟨x0, x1, x2, x3⟩
          · exact nearest_0_b0 A n c ts s u v k l w R hn hs hp _ _ rfl rfl h64 k64 hcan _ rfl y0 m0 m1 x0
          · exact nearest_0_b1 A n c ts s u v k l w R hn hs hp _ _ rfl rfl h64 k64 hcan _ rfl y0 m0 m1 x0 x1
          · exact nearest_0_b2 A n c ts s u v k l w R hn hs hp _ _ rfl rfl h64 k64 hcan _ rfl y0 m0 m1 x0 x1 x2
          · exact nearest_0_b3 A n c ts s u v k l w R hn hs hp _ _ rfl rfl h64 k64 hcan _ rfl y0 m0 m1 x0 x1 x2 x3
      · exact nearest_0_n A n c ts s u v k l w R hn hs hp _ _ rfl rfl h64 k64 hcan _ rfl y0 m0 m1
  · by_cases m0 : s 0 = 4
    · by_cases hb : ∀ i, i < 4 → slv ts s u v 0 1 i = (fun i => s (5 + i)) i
      · exact nearest_1_ae A n c ts s u v k l w R hn hs hp _ _ rfl rfl h64 k64 _ rfl y0 y1 m0 (hb 0 (by omega)) (hb 1 (by omega)) (hb 2 (by omega)) (hb 3 (by omega))
      · rcases four_ne hb with x0 | ⟨x0, x1⟩ | ⟨x0, x1, x2⟩ | ⟨x0, x1, x2, x3⟩
        · exact nearest_1_a0 A n c ts s u v k l w R hn hs hp _ _ rfl rfl h64 k64 hcan _ rfl y0 y1 m0 x0
        · exact nearest_1_a1 A n c ts s u v k l w R hn hs hp _ _ rfl rfl h64 k64 hcan _ rfl y0 y1 m0 x0 x1
        · exact nearest_1_a2 A n c ts s u v k l w R hn hs hp _ _ rfl rfl h64 k64 hcan _ rfl y0 y1 m0 x0 x1 x2
        · exact nearest_1_a3 A n c ts s u v k l w R hn hs hp _ _ rfl rfl h64 k64 hcan _ rfl y0 y1 m0 x0 x1 x2 x3
    · by_cases m1 : s 1 = 4
      · by_cases hb : ∀ i, i < 4 → slv ts s u v 0 1 i = (fun i => s (5 + i)) i
        · exact nearest_1_be A n c ts s u v k l w R hn hs hp _ _ rfl rfl h64 k64 _ rfl y0 y1 m0 m1 (hb 0 (by omega)) (hb 1 (by omega)) (hb 2 (by omega)) (hb 3 (by omega))
        · rcases four_ne hb with x0 | ⟨x0, x1⟩ | ⟨x0, x1, x2⟩ | ⟨x0, x1, x2, x3⟩
          · exact nearest_1_b0 A n c ts s u v k l w R hn hs hp _ _ rfl rfl h64 k64 hcan _ rfl y0 y1 m0 m1 x0
          · exact nearest_1_b1 A n c ts s u v k l w R hn hs hp _ _ rfl rfl h64 k64 hcan _ rfl y0 y1 m0 m1 x0 x1
          · exact nearest_1_b2 A n c ts s u v k l w R hn hs hp _ _ rfl rfl h64 k64 hcan _ rfl y0 y1 m0 m1 x0 x1 x2
          · exact nearest_1_b3 A n c ts s u v k l w R hn hs hp _ _ rfl rfl h64 k64 hcan _ rfl y0 y1 m0 m1 x0 x1 x2 x3
      · exact nearest_1_n A n c ts s u v k l w R hn hs hp _ _ rfl rfl h64 k64 hcan _ rfl y0 y1 m0 m1
  · by_cases m0 : s 0 = 4
    · by_cases hb : ∀ i, i < 4 → slv ts s u v 0 1 i = (fun i => s (5 + i)) i
      · exact nearest_2_ae A n c ts s u v k l w R hn hs hp _ _ rfl rfl h64 k64 _ rfl y0 y1 y2 m0 (hb 0 (by omega)) (hb 1 (by omega)) (hb 2 (by omega)) (hb 3 (by omega))
      · rcases four_ne hb with x0 | ⟨x0, x1⟩ | ⟨x0, x1, x2⟩ | ⟨x0, x1, x2, x3⟩
        · exact nearest_2_a0 A n c ts s u v k l w R hn hs hp _ _ rfl rfl h64 k64 hcan _ rfl y0 y1 y2 m0 x0
        · exact nearest_2_a1 A n c ts s u v k l w R hn hs hp _ _ rfl rfl h64 k64 hcan _ rfl y0 y1 y2 m0 x0 x1
        · exact nearest_2_a2 A n c ts s u v k l w R hn hs hp _ _ rfl rfl h64 k64 hcan _ rfl y0 y1 y2 m0 x0 x1 x2
        · exact nearest_2_a3 A n c ts s u v k l w R hn hs hp _ _ rfl rfl h64 k64 hcan _ rfl y0 y1 y2 m0 x0 x1 x2 x3
    · by_cases m1 : s 1 = 4
      · by_cases hb : ∀ i, i < 4 → slv ts s u v 0 1 i = (fun i => s (5 + i)) i
        · exact nearest_2_be A n c ts s u v k l w R hn hs hp _ _ rfl rfl h64 k64 _ rfl y0 y1 y2 m0 m1 (hb 0 (by omega)) (hb 1 (by omega)) (hb 2 (by omega)) (hb 3 (by omega))
        · rcases four_ne hb with x0 | ⟨x0, x1⟩ | ⟨x0, x1, x2⟩ | ⟨x0, x1, x2, x3⟩
          · exact nearest_2_b0 A n c ts s u v k l w R hn hs hp _ _ rfl rfl h64 k64 hcan _ rfl y0 y1 y2 m0 m1 x0
          · exact nearest_2_b1 A n c ts s u v k l w R hn hs hp _ _ rfl rfl h64 k64 hcan _ rfl y0 y1 y2 m0 m1 x0 x1
          · exact nearest_2_b2 A n c ts s u v k l w R hn hs hp _ _ rfl rfl h64 k64 hcan _ rfl y0 y1 y2 m0 m1 x0 x1 x2
          · exact nearest_2_b3 A n c ts s u v k l w R hn hs hp _ _ rfl rfl h64 k64 hcan _ rfl y0 y1 y2 m0 m1 x0 x1 x2 x3
      · exact nearest_2_n A n c ts s u v k l w R hn hs hp _ _ rfl rfl h64 k64 hcan _ rfl y0 y1 y2 m0 m1
  · by_cases m0 : s 0 = 4
    · by_cases hb : ∀ i, i < 4 → slv ts s u v 0 1 i = (fun i => s (5 + i)) i
      · exact nearest_3_ae A n c ts s u v k l w R hn hs hp _ _ rfl rfl h64 k64 _ rfl y0 y1 y2 y3 m0 (hb 0 (by omega)) (hb 1 (by omega)) (hb 2 (by omega)) (hb 3 (by omega))
      · rcases four_ne hb with x0 | ⟨x0, x1⟩ | ⟨x0, x1, x2⟩ | ⟨x0, x1, x2, x3⟩
        · exact nearest_3_a0 A n c ts s u v k l w R hn hs hp _ _ rfl rfl h64 k64 hcan _ rfl y0 y1 y2 y3 m0 x0
        · exact nearest_3_a1 A n c ts s u v k l w R hn hs hp _ _ rfl rfl h64 k64 hcan _ rfl y0 y1 y2 y3 m0 x0 x1
        · exact nearest_3_a2 A n c ts s u v k l w R hn hs hp _ _ rfl rfl h64 k64 hcan _ rfl y0 y1 y2 y3 m0 x0 x1 x2
        · exact nearest_3_a3 A n c ts s u v k l w R hn hs hp _ _ rfl rfl h64 k64 hcan _ rfl y0 y1 y2 y3 m0 x0 x1 x2 x3
    · by_cases m1 : s 1 = 4
      · by_cases hb : ∀ i, i < 4 → slv ts s u v 0 1 i = (fun i => s (5 + i)) i
        · exact nearest_3_be A n c ts s u v k l w R hn hs hp _ _ rfl rfl h64 k64 _ rfl y0 y1 y2 y3 m0 m1 (hb 0 (by omega)) (hb 1 (by omega)) (hb 2 (by omega)) (hb 3 (by omega))
        · rcases four_ne hb with x0 | ⟨x0, x1⟩ | ⟨x0, x1, x2⟩ | ⟨x0, x1, x2, x3⟩
          · exact nearest_3_b0 A n c ts s u v k l w R hn hs hp _ _ rfl rfl h64 k64 hcan _ rfl y0 y1 y2 y3 m0 m1 x0
          · exact nearest_3_b1 A n c ts s u v k l w R hn hs hp _ _ rfl rfl h64 k64 hcan _ rfl y0 y1 y2 y3 m0 m1 x0 x1
          · exact nearest_3_b2 A n c ts s u v k l w R hn hs hp _ _ rfl rfl h64 k64 hcan _ rfl y0 y1 y2 y3 m0 m1 x0 x1 x2
          · exact nearest_3_b3 A n c ts s u v k l w R hn hs hp _ _ rfl rfl h64 k64 hcan _ rfl y0 y1 y2 y3 m0 m1 x0 x1 x2 x3
      · exact nearest_3_n A n c ts s u v k l w R hn hs hp _ _ rfl rfl h64 k64 hcan _ rfl y0 y1 y2 y3 m0 m1

end Go.Proofs.Ytoipmldbjciinaa
