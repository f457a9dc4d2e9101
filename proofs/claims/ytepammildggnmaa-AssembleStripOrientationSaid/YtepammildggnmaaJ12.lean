/- SortFunc at a slice of edges of the call's own. -/
import Derived.Test.YtepammildggnmaaJ11
namespace Go.Proofs.Ytepammildggnmaa
open Go.RowKit Go.Sort Go.ChangeShapes Go.WideShapes
set_option linter.unusedVariables false

theorem below_sortWorld {W : World} {B g m : Nat} {d : Array Ed} {os : Array Obj} (hb : B ≤ g) (hB : B ≤ W.heap.size) : Go.RowKit.Below B W (sortWorldK ed 2 W g 0 m d os) := by
  unfold sortWorldK putRowK putRow
  refine ⟨rfl, rfl, rfl, ?_, fun k hk => ?_⟩
  · simp [grow, mapBlock]
  · have h : k < W.heap.size := by omega
    simp [grow, mapBlock, Array.getElem?_append, h]
    rw [Array.getElem_modify, if_neg (by omega)]

theorem holds_own {W : World} {base n c g : Nat} {es : List Ed} (own : OwnD W base (some ⟨g, 0, none⟩) n c es) : HoldsK ed 2 W g 0 es.toArray ∧ g < W.heap.size ∧ base ≤ g := by
  have hlt := own.1.lt
  have hcell := fun g => own.1.cells (g := g)
  have hlen := own.2.2
  have hfr : ∀ i, W.frozen? ⟨g, i, none⟩ = false := by
    rcases own.1.2 with ⟨hv, h0⟩ | ⟨g', cap, cur, hv, hb, hh, hnc, hcm, hcs, htake⟩
    · cases hv
    · simp only [Value.slice.injEq, Option.some.injEq, Addr.mk.injEq] at hv
      obtain ⟨⟨rfl, _⟩, _, rfl⟩ := hv
      intro i
      simp [World.frozen?, hh]
  refine ⟨fun t ht => ⟨?_, hfr _⟩, (hlt g rfl).2, (hlt g rfl).1⟩
  rw [size_flatK] at ht
  have ht' : t < es.length * 2 := by simpa using ht
  have hq : t / 2 < es.length := by omega
  have hx := List.getElem?_eq_getElem hq
  have hr : t % 2 < (ed es[t / 2]).length := by show _ < 2; omega
  have hv := List.getElem?_eq_getElem hr
  have g1 := encs_get edEnc hx hv
  rw [show t / 2 * 2 + t % 2 = t by omega] at g1
  have hk := hcell g rfl t _ g1
  rw [add_plain'] at hk
  rw [get_flatK ed 2 es.toArray t (by simpa using ht'), hk]
  simp [hq]
  rw [List.getElem?_eq_getElem hr]
  rfl

theorem swoE : SWO (ltOf cmpE) where
  irrefl x := by unfold ltOf; rw [decide_eq_false]; rw [cmpE_neg]; exact elt_irrefl x
  trans x y z h1 h2 := by
    unfold ltOf at *
    have h1 := of_decide_eq_true h1
    have h2 := of_decide_eq_true h2
    rw [cmpE_neg] at h1 h2
    refine decide_eq_true ?_
    rw [cmpE_neg]
    exact elt_trans h1 h2
  ntrans x y z h1 h2 := by
    unfold ltOf at *
    have h1 := of_decide_eq_false h1
    have h2 := of_decide_eq_false h2
    rw [cmpE_neg] at h1 h2
    refine decide_eq_false ?_
    rw [cmpE_neg]
    unfold elt at *
    omega

theorem sorted_wasc {d : Array Ed} (h : SortedIn (ltOf cmpE) 0 d.size d) : wasc d.toList := by
  unfold wasc
  rw [List.pairwise_iff_getElem]
  intro i j hi hj hij he
  have h1 := h i j (Nat.zero_le _) hij (by simpa using hj)
  unfold ltOf at h1
  have h2 := of_decide_eq_false h1
  rw [cmpE_neg] at h2
  have hi' : i < d.size := by simpa using hi
  have hj' : j < d.size := by simpa using hj
  rw [getElem!_pos d j hj', getElem!_pos d i hi'] at h2
  exact h2 (by simpa using he)

/-- SortFunc, at a slice that is not nil. -/
theorem sort_some (g n c base : Nat) (es : List Ed) (w : World) (own : OwnD w base (some ⟨g, 0, none⟩) n c es) (hn : n < 4611686018427387904) :
    Calls Try.prog 31 #[.slice (some ⟨g, 0, none⟩) n c, .func (.func 32) #[] #[]] w fun e w' =>
      e = .returned (.tuple #[]) ∧ ∃ d, d.Perm es ∧ wasc d ∧ RdD w' w'.heap.size (some ⟨g, 0, none⟩) n d ∧ Go.RowKit.Below base w w' := by
  obtain ⟨hH, hg, hbg⟩ := holds_own own
  have hlen := own.2.2
  have hs : es.toArray.size = n := by simpa using hlen
  have eg : ∀ args w, (callFunc 32 args).run Try.prog w = .ok (.enter 32 args) w := enters_of Try.func32 (by kernel_rfl) rfl
  have hcon := Try.slices_SortFunc 2 Try.isAgg49 Try.sizeOf49 ed (fun _ => rfl) edEnc.one cmpE swoE 32 #[] g 0 c es.toArray w eg (fun _ _ _ _ x y => cmpE_g x y _) hH hg (by omega)
  rw [hs] at hcon
  refine hcon.mono fun e w' ⟨he, d', m, os, hp, hso, hw⟩ => ⟨he, d'.toList, ?_, ?_, ?_, ?_⟩
  · obtain ⟨p1, p2, p3⟩ := hp
    have q1 : d'.size = n := by rw [p1, hs]
    have e1 : (d'.extract 0 n).toList = d'.toList := by rw [← q1]; simp
    have e2 : (es.toArray.extract 0 n).toList = es := by rw [← hs]; simp
    rw [e1, e2] at p3
    exact p3
  · have q1 : d'.size = n := by rw [hp.1, hs]
    rw [← q1] at hso
    exact sorted_wasc hso
  · have q1 : d'.size = n := by rw [hp.1, hs]
    have hd : HoldsK ed 2 w' g 0 d' := by
      rw [hw]
      exact holdsK_sortWorldK ed 2 w g 0 m es.toArray d' os hg hH (by rw [q1, hs])
    have hlt : g < w'.heap.size := Nat.lt_of_lt_of_le hg (by rw [hw]; exact (below_sortWorld (Nat.le_refl g) (Nat.le_of_lt hg)).size)
    refine ⟨by simpa using q1, fun _ => ⟨g, 0, rfl, hlt, fun j x hx i v hv => ?_⟩⟩
    obtain ⟨hj, hx'⟩ := List.getElem?_eq_some_iff.1 hx
    have hj' : j < d'.size := by simpa using hj
    have hi : i < 2 := (List.getElem?_eq_some_iff.1 hv).1
    have h1 := (hd.cell hj' hi).1
    rw [getElem!_pos d' j hj', show d'[j] = x by simpa using hx'] at h1
    rw [h1]
    have h2 : (ed x)[i]! = v := by simp [List.getElem!_eq_getElem?_getD, hv]
    rw [h2]
  · rw [hw]
    exact below_sortWorld hbg own.2.1

theorem ins_nil (f : Value) (w : World) : Calls Try.prog 43 #[.slice none 0 0, .int .i64 0, .int .i64 0, f] w fun e w' => e = .returned (.tuple #[]) ∧ w = w' := by
  go_enter Try.func43, Try.ntmps43
  go_wp2
  go_loopw [8] (fun i wr => ∃ k : Nat, k = 1 ∧ i = .int .i64 (k : Int) ∧ w = wr) (fun i _ => (intOf i).toNat)
  case atStart => exact ⟨1, rfl, rfl, by simp⟩
  case round =>
    obtain ⟨k, rfl, rfl, rfl⟩ := hrel
    go_wp2
    go_end0
    exact ⟨rfl, rfl⟩

set_option maxRecDepth 100000 in
theorem pdq_nil (f : Value) (l : Int) (w : World) : Calls Try.prog 37 #[.slice none 0 0, .int .i64 0, .int .i64 0, .int .i64 l, f] w fun e w' => e = .returned (.tuple #[]) ∧ w = w' := by
  go_enter Try.func37, Try.ntmps37
  go_wp2
  go_loopw [1, 2] (fun a b wr => ∃ k : Nat, k = 0 ∧ a = .int .i64 (k : Int) ∧ b = .int .i64 (k : Int) ∧ w = wr) (fun _ i _ => (intOf i).toNat)
  case atStart => exact ⟨0, rfl, rfl, rfl, by simp⟩
  case round =>
    obtain ⟨k, rfl, rfl, rfl, rfl⟩ := hrel
    go_wp2_with (go_at_call 43; (refine (ins_nil _ _).mono ?_); rintro _ _ ⟨rfl, rfl⟩)
    refine bodyPost_ret (results_none rfl _ _ _) rfl ?_
    exact ⟨rfl, rfl⟩

theorem len0 (w : World) : Calls Try.prog 38 #[.int .u64 0] w fun e w' => (∃ l : Int, e = .returned (.int .i64 l)) ∧ w' = w := by
  have h := Any.bits_Len (SlLaysF0.n15.bits (P := Try.prog) (ρ := Try.laysSlF06_f31_ren) { Try.laysSlF06_f31 with }) 0 w (by omega) (by omega)
  exact h.mono fun _ _ ⟨h1, h2⟩ => ⟨⟨_, h1⟩, h2⟩

/-- .. at nil. -/
theorem sort_nil (f : Value) (w : World) : Calls Try.prog 31 #[.slice none 0 0, f] w fun e w' => e = .returned (.tuple #[]) ∧ w = w' := by
  go_enter Try.func31, Try.ntmps31
  go_wp2_with (first
    | (go_at_call 38; (refine (len0 _).mono ?_); rintro _ _ ⟨⟨l, rfl⟩, rfl⟩)
    | (go_at_call 37; (refine (pdq_nil _ _ _).mono ?_); rintro _ _ ⟨rfl, rfl⟩))
  go_end0
  exact ⟨rfl, rfl⟩

/-- SortFunc by compareEdges, at a slice of the call's own. -/
theorem sort_b (A : Option Addr) (n c base : Nat) (es : List Ed) (w : World) (own : OwnD w base A n c es) (hn : n < 4611686018427387904) :
    Calls Try.prog 31 #[.slice A n c, .func (.func 32) #[] #[]] w fun e w' =>
      e = .returned (.tuple #[]) ∧ ∃ d, d.Perm es ∧ wasc d ∧ RdD w' w'.heap.size A n d ∧ Go.RowKit.Below base w w' := by
  rcases own.1.2 with ⟨hv, h0⟩ | ⟨g, cap, cur, hv, _⟩
  · subst h0
    simp only [Value.slice.injEq] at hv
    obtain ⟨rfl, _, rfl⟩ := hv
    have hl : es = [] := List.eq_nil_of_length_eq_zero own.2.2
    subst hl
    exact (sort_nil _ w).mono fun _ _ ⟨h1, h2⟩ => ⟨h1, [], List.Perm.refl _, List.Pairwise.nil, RdE.nil _ _ _ _ _, by rw [← h2]; exact Go.RowKit.Below.refl _ _⟩
  · simp only [Value.slice.injEq] at hv
    obtain ⟨rfl, _, rfl⟩ := hv
    exact sort_some g n _ base es w own hn

end Go.Proofs.Ytepammildggnmaa
