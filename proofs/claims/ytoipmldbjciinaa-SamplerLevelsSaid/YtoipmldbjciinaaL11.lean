/- Valid of textures, of the reference. -/
import Derived.Test.YtoipmldbjciinaaL5
namespace Go.Proofs.Ytoipmldbjciinaa
open Go.RowKit Go.Sort Go.ChangeShapes Go.WideShapes

theorem tvK_of {ts : List Tx} : ∀ n, (∀ j, j < n → lok (ts.getD 0 default).m j (ts.getD j default).m = true) → tvK ts n = true := by
  intro n
  induction n with
  | zero => intro _; rfl
  | succ n ih => intro h; rw [tvK, ih (fun j hj => h j (by omega)), h n (by omega)]; rfl

theorem tok_tv {ts : List Tx} (h : tok (ts.map Tx.m)) : tv ts = true := by
  obtain ⟨m0, r, he, hall⟩ := h
  have hlen : 0 < ts.length := by
    cases ts with
    | nil => cases he
    | cons t q => simp
  have hg : ∀ j, j < ts.length → (ts.map Tx.m)[j]? = some (ts.getD j default).m := by
    intro j hj
    rw [List.getElem?_map, List.getElem?_eq_getElem hj, List.getD, List.getElem?_eq_getElem hj]
    rfl
  have h0 : (ts.getD 0 default).m = m0 := by
    have h1 := hg 0 hlen
    rw [he] at h1
    simpa using h1.symm
  unfold tv
  rw [decide_eq_true hlen, Bool.true_and]
  refine tvK_of _ fun j hj => ?_
  obtain ⟨a1, a2, a3, a4, a5⟩ := hall j _ (hg j hj)
  rw [h0]
  unfold lok lsz
  rw [if_pos ⟨by omega, by omega⟩, Int.toNat_natCast]
  exact decide_eq_true ⟨a1, a2, a4, a5⟩

end Go.Proofs.Ytoipmldbjciinaa
