/- The walk of AssembleEdges; its argument opened. -/
import Derived.Test.YtepammildggnmaaJ16
import Derived.Test.YtepammildggnmaaOpenE
namespace Go.Proofs.Ytepammildggnmaa
open Go.RowKit Go.Sort Go.ChangeShapes Go.WideShapes Go.Joins Go.Deep
set_option linter.unusedVariables false

theorem rstepE_len (ts : List Tri) (o : List Ed) (a b : Int) : (rstepE ts o a b).length ≤ o.length + 1 := by
  unfold rstepE
  split
  · exact ins_len _ _
  · omega

theorem redg_len (ts : List Tri) : (redg ts ts).length ≤ 3 * ts.length := by
  have key : ∀ (us : List Tri) (o : List Ed), (us.foldl (rtri ts) o).length ≤ o.length + 3 * us.length := by
    intro us
    induction us with
    | nil => intro o; simp
    | cons u us ih =>
      intro o
      have h := ih (rtri ts o u)
      have h1 := rstepE_len ts o u.x u.y
      have h2 := rstepE_len ts (rstepE ts o u.x u.y) u.y u.z
      have h3 := rstepE_len ts (rstepE ts (rstepE ts o u.x u.y) u.y u.z) u.z u.x
      rw [List.foldl_cons, List.length_cons]
      unfold rtri at h ⊢
      omega
  have h := key ts []
  simpa [redg] using h

section
variable {H : Type} {enc : TypeId × Value → H} {w : World} {base : Nat} {spare : Nat → Bool} {held : Bool}

theorem open_tris {r : Reach} {b0 : Nat} {v : Value} {d : DataW H} {p : List MemPlace} (hv : Value.okWide Try.prog w r b0 28 v) (h : DataW.Trod enc Try.prog w base spare held 28 v d p) :
    ∃ A n c l, v = .slice A n c ∧ RdT w w.heap.size A n l ∧ n ≤ c ∧ c ≤ maxLen ∧ (d = .nil ∧ n = 0 ∨ ∃ elems spare, d = .slice elems spare ∧ elems.length = n) := by
  obtain ⟨A0, n0, c0, rfl⟩ := okWide_slice Try.underlying28 hv
  obtain ⟨fuel, hf⟩ := h
  obtain ⟨A, n, c, l, h1, h2, _, h4, h5, h6⟩ := open_E (P := Try.prog) triEnc (fun _ => True) Try.underlying28 (by kernel_rfl) (v := .slice A0 n0 c0) (fun cs m y hy => by
    obtain ⟨z0, z1, z2, e, _⟩ := elem3 Try.underlying24 Try.underlying3 (by kernel_rfl) (by kernel_rfl) cs m y hy
    exact ⟨⟨z0, z1, z2⟩, e, trivial⟩) hf
  exact ⟨A, n, c, l, h1, h2, h4, h5, h6⟩
end

set_option maxRecDepth 100000 in
set_option maxHeartbeats 2000000 in
theorem edges_walk (A : Option Addr) (n c : Nat) (ts : List Tri) (w : World) (R : RdT w w.heap.size A n ts) (hn : n ≤ 1048576) :
    Calls Try.prog 5 #[.slice A n c] w fun e w' => e = .returned (.bool true) ∧ Below w.heap.size w w' := by
  have BB : Below w.heap.size w w := Below.refl _ _
  have KR := Lib.hid R
  have C1 := Lib.hid (fun W R => edges_b A n c ts W R hn)
  have C2 := Lib.hid (fun W R => redges_b A n c ts W R hn)
  have HLE : Hid ((redg ts ts).length ≤ 9223372036854775807) := Lib.hid (by have h := redg_len ts; rw [R.len] at h; omega)
  obtain ⟨G, hG⟩ : ∃ G, redg ts ts = G := ⟨_, rfl⟩
  rw [hG] at C1 C2 HLE
  clear R hG
  go_enter Try.func5, Try.ntmps5
  go_wp2_with (first
    | (go_at_call 24; (with_reducible refine (C1.out _ (KR.out.below BB |>.more BB.size)).mono ?_); rintro _ W1 ⟨A2, n2, d2, rfl, R2, B⟩; replace BB := bon BB B; clear B)
    | (go_at_call 25; (with_reducible refine (C2.out _ (KR.out.below BB |>.more BB.size)).mono ?_); rintro _ W1 ⟨A3, n3, d3, rfl, R3, B⟩; replace BB := bon BB B; replace R2 := R2.on B; clear B)
    | (go_at_call 23; (with_reducible refine (sameEdges_b _ _ _ _ _ _ _ _ R2 R3 (by have h1 := R2.len; have h2 := HLE.out; omega)).mono ?_); rintro _ W3 ⟨rfl, B⟩; replace BB := bon BB B; clear B R2 R3)
    | (go_at_call 19; (with_reducible refine (example_b _).mono ?_); rintro _ W9 ⟨rfl, B⟩; replace BB := bon BB B; clear B))
  go_ret
  exact ⟨rfl, BB⟩

end Go.Proofs.Ytepammildggnmaa
