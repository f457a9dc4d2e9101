/- As XTail, for a head whose calls may draw and lay blocks, with the draws told: the class of the worlds is the library's GrownBy. No program is named here. -/
import Derived.Test.YtepammildggnmaaTailK
import Derived.Shelf.SlSortCmp.QuietGrown
namespace Go.Proofs.Ytepammildggnmaa
open Go.RowKit Go.Sort

section
variable {P : Program} {ops : Array Oper} {md : Region.Mode} {C : World → Prop}

theorem wp_region_tailG {id n : Nat} {Q : Exit → Act → World → Prop} {a : Act} {w : World} {l : List Oper} (hm : P.follows .mixedOrders = true)
    (hB : (Region.noSelect l.toArray && decide (n ≤ l.length) && tailBK .any l.toArray n && Region.lexFrom .any l.toArray n 0 (List.replicate n false ++ List.replicate (l.length - n) true).toArray &&
      Region.seqB .any l.toArray (l.length - n) n (List.replicate n true ++ List.replicate (l.length - n) false).toArray) = true)
    (h : wpQuiet P l.toArray (fun w' => ∃ p : GrownBy, w' = grow (w.drewN p.n) p.os) (fun a' => ∀ w', (∃ p : GrownBy, w' = grow (w.drewN p.n) p.os) → wpList P l.toArray Q (l.drop n) a' w') (l.take n) a) : (Code.region id l.toArray true).wp P Q a w := by
  simp only [Bool.and_eq_true, decide_eq_true_eq] at hB
  obtain ⟨⟨⟨⟨hs, hn⟩, hT⟩, hlex⟩, hseq⟩ := hB
  have htl : (l.take n).length = n := by simp; omega
  have hq := head_lex (C := fun w' => ∃ p : GrownBy, w' = grow (w.drewN p.n) p.os) (md := .any) hs (l.take n) 0 _ a (fun j hj => by
    have hj' : j < n := by rw [htl] at hj; exact hj
    simp [hj']) (by rw [htl]; exact hlex) h
  rw [htl] at hq
  refine wp_region_any hm ?_
  have := bridgeK (P := P) (md := .any) (Q' := Q) (tail := l.drop n) hT (g := l.length - n) (by simp; omega) hseq (by simp) (fun j => by simp [List.getElem?_drop]) (fun a' w' hw' hL => hL w' hw') n (List.replicate n false) a (by simp) (by simp) (fun k j hk h1 => by simp [hk] at h1) hq
    { w with drawn := w.drawn + 1 } ⟨⟨1, #[]⟩, by rw [grow_empty]; rfl⟩
  rw [show n + (l.length - n) = l.toArray.size by simp; omega] at this
  rw [show List.replicate n false ++ List.replicate (l.length - n) false = List.replicate l.toArray.size false by simp; omega] at this
  rw [List.toArray_replicate] at this
  exact this
end

end Go.Proofs.Ytepammildggnmaa
