/- What a frame hands on of stage 15's input. -/
import Derived.Test.YtfakmeimideoaaaH4
import Derived.Test.YtfakmeimideoaaaOpenE
namespace Go.Proofs.Ytfakmeimideoaaa
open Go.RowKit Go.ChangeShapes Go.WideShapes Go.Joins Go.Deep

section
variable {H : Type} {enc : TypeId × Value → H} {w : World} {base : Nat} {spare : Nat → Bool} {held : Bool}

theorem bfEnc : Enc bfv 1 := ⟨fun _ => rfl, by decide, fun x v hv => by simp [bfv] at hv; subst hv; rfl⟩

theorem attrs_open {fuel : Nat} {v : Value} {x : DataW H × List MemPlace} (h : DataW.trod enc Try.prog w base spare held fuel 24 [v] = some x) :
    ∃ A n c l, v = .slice A n c ∧ RdA w w.heap.size A n l ∧ n ≤ 9223372036854775807 := by
  obtain ⟨A, n, c, l, hv, R, _, h1, h2, _⟩ := open_E (P := Try.prog) atEnc (fun _ => True) Try.underlying24 (by kernel_rfl) (fun cs m y hy => by
    obtain ⟨z0, z1, z2, z3, rfl⟩ := elem4 Try.underlying45 (by kernel_rfl) (by kernel_rfl) ⟨Try.underlying3, Try.underlying3, Try.underlying3, Try.underlying43⟩ cs m y hy
    exact ⟨⟨z0, z1, z2, z3⟩, rfl, trivial⟩) h
  exact ⟨A, n, c, l, hv, R, by simp only [maxLen] at h2; omega⟩

theorem bufs_open {fuel : Nat} {v : Value} {x : DataW H × List MemPlace} (h : DataW.trod enc Try.prog w base spare held fuel 25 [v] = some x) :
    ∃ A n c l, v = .slice A n c ∧ RdB w w.heap.size A n l := by
  obtain ⟨A, n, c, l, hv, R, G, h1, h2, _⟩ := open_E (P := Try.prog) bfEnc (fun r => Rd w w.heap.size .u8 r.A r.n r.l ∧ r.n ≤ 9223372036854775807) Try.underlying25 (by kernel_rfl) (fun cs m y hy => by
    have hl : cs.length = 1 := by
      rcases Go.Deep.open_slice Try.underlying22 hy with ⟨h1, _⟩ | ⟨_, _, _, _, _, _, _, h1, _⟩ <;> rw [h1] <;> rfl
    match cs, hl with
    | [u], _ =>
      obtain ⟨A, q, c, l, rfl, R, h1, h2, _⟩ := rd_open Try.underlying22 Try.underlying5 (by kernel_rfl) hy
      exact ⟨⟨A, q, c, l⟩, rfl, R, by simp only [maxLen] at h2; simp only; omega⟩) h
  exact ⟨A, n, c, l, hv, R, G⟩

theorem open_attrs {r : Reach} {b0 : Nat} {v : Value} {d : DataW H} {p : List MemPlace} (hv : Value.okWide Try.prog w r b0 24 v) (h : DataW.Trod enc Try.prog w base spare held 24 v d p) :
    ∃ A n c l, v = .slice A n c ∧ RdA w w.heap.size A n l ∧ n ≤ 9223372036854775807 := by
  obtain ⟨A, n, c, rfl⟩ := okWide_slice Try.underlying24 hv
  obtain ⟨fuel, hf⟩ := h
  exact attrs_open hf

theorem open_fin {r : Reach} {b0 : Nat} {v : Value} {d : DataW H} {p : List MemPlace} (hv : Value.okWide Try.prog w r b0 27 v) (h : DataW.Trod enc Try.prog w base spare held 27 v d p) :
    ∃ A0 n0 c0 l0, ∃ t i m : Int, ∃ A1 n1 c1 l1 A2 n2 c2 l2, ∃ vx : Int, v = .agg #[.slice A0 n0 c0, .int .i64 t, .int .i64 i, .int .i64 m, .slice A1 n1 c1, .slice A2 n2 c2, .int .i64 vx] ∧ Rd w w.heap.size .u8 A0 n0 l0 ∧ RdA w w.heap.size A1 n1 l1 ∧ RdB w w.heap.size A2 n2 l2 ∧
      n0 ≤ 9223372036854775807 ∧ n1 ≤ 9223372036854775807 := by
  obtain ⟨c0, c1, c2, c3, c4, c5, c6, y0, y1, y2, y3, y4, y5, y6, n, rfl, _, g0, g1, g2, g3, g4, g5, g6⟩ := open_agg7 Try.underlying27 (by kernel_rfl) (by kernel_rfl) hv h
  obtain ⟨A0, n0, d0, l0, rfl, R0, q0, q1, _⟩ := rd_open Try.underlying22 Try.underlying5 (by kernel_rfl) g0
  obtain ⟨t, rfl, _⟩ := trod_i64 Try.underlying23 g1
  obtain ⟨i, rfl, _⟩ := trod_i64 Try.underlying3 g2
  obtain ⟨m, rfl, _⟩ := trod_i64 Try.underlying3 g3
  obtain ⟨A1, n1, d1, l1, rfl, R1, q2⟩ := attrs_open g4
  obtain ⟨A2, n2, d2, l2, rfl, R2⟩ := bufs_open g5
  obtain ⟨vx, rfl, _⟩ := trod_i64 Try.underlying3 g6
  exact ⟨A0, n0, d0, l0, t, i, m, A1, n1, d1, l1, A2, n2, d2, l2, vx, rfl, R0, R1, R2, by simp only [maxLen] at q1; omega, q2⟩
end

end Go.Proofs.Ytfakmeimideoaaa
