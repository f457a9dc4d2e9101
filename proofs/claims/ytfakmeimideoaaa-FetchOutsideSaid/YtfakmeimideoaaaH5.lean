/- What Unique of package fetch and of the reference return; the laws' same; the example. -/
import Derived.Test.YtfakmeimideoaaaH3
import Derived.Test.YtfakmeimideoaaaTail
import Derived.Maps.OwnSet
import Derived.Maps.OwnOps
namespace Go.Proofs.Ytfakmeimideoaaa
open Go.RowKit Go.Sort Go.ChangeShapes Go.WideShapes
open Go.Maps (Keyed)
set_option linter.unusedVariables false

set_option maxRecDepth 100000 in
theorem lsame_b (A A2 : Option Addr) (n n2 c c2 B1 B2 : Nat) (l : List Int) (w : World) (R1 : Rd w B1 .i64 A n l) (R2 : Rd w B2 .i64 A2 n2 l) (h1 : B1 ≤ w.heap.size) (h2 : B2 ≤ w.heap.size) (hn : n ≤ 9223372036854775807) :
    Calls Try.prog 11 #[.slice A n c, .slice A2 n2 c2] w fun e w' => e = .returned (.bool true) ∧ Below w.heap.size w w' := by
  obtain rfl : n2 = n := by rw [← R1.len, ← R2.len]
  go_enter Try.func11, Try.ntmps11
  go_wp2
  go_loopw [5] (fun i wr => ∃ k : Nat, k ≤ n2 ∧ i = .int .i64 k ∧ Below w.heap.size w wr) (fun i _ => n2 - (intOf i).toNat)
  case atStart => exact ⟨0, Nat.zero_le _, rfl, Below.refl _ _⟩
  case round =>
    obtain ⟨k, hk, rfl, BB⟩ := hrel
    by_cases hlt : k < n2
    · obtain ⟨b1, o1, x, rfl, c1, x0, x1, hx⟩ := (R1.below (BB.mono h1)).int hlt
      obtain ⟨b2, o2, y, rfl, c2, _, _, hy⟩ := (R2.below (BB.mono h2)).int hlt
      obtain rfl : y = x := hid_some hx hy
      clear R1 R2
      go_wp2_with fail
      have k_c1 := cell_regrown c1
      have k_c2 := cell_regrown c2
      refine wp_region_quiet_below (by kernel_rfl) (by kernel_rfl) ?_
      repeat (first | go_big_quiet_step ((first | fail)) | quiet_step ((first | fail)))
      refine wpQuiet_nil ?_
      intro W hw'
      have B := below_regrown' hw'
      clear hw' k_c1 k_c2
      replace BB := bon BB B
      replace c1 := cell_below B c1
      replace c2 := cell_below B c2
      go_wp2
      go_roundw
      case rel => exact ⟨k + 1, by omega, by go_num, BB⟩
      case measure => simp [intOf]; omega
    · obtain rfl : k = n2 := by omega
      clear R1 R2
      go_wp2
      go_ret
      exact ⟨rfl, BB⟩

theorem rfind_b (A : Option Addr) (n c : Nat) (l : List Int) (x : Int) (w : World) (R : Rd w w.heap.size .i64 A n l) (hn : n ≤ 9223372036854775807) :
    Calls Try.prog 35 #[.slice A n c, .int .i64 x] w fun e w' => e = .returned (.int .i64 (fnd l x)) ∧ w = w' := by
  have HR := Lib.hid R
  have HL := Lib.hid R.len
  have HB : Hid (∀ j, j < 0 → l[j]? ≠ some x) := Lib.hid (fun j hj => absurd hj (by omega))
  clear R
  go_enter Try.func35, Try.ntmps35
  go_wp2
  go_loop [5] (fun i => ∃ k : Nat, k ≤ n ∧ i = .int .i64 k ∧ Hid (∀ j, j < k → l[j]? ≠ some x)) (fun i => n - (intOf i).toNat)
  case atStart => exact ⟨0, Nat.zero_le _, rfl, HB⟩
  case round =>
    clear HB
    obtain ⟨k, hk, rfl, HB⟩ := hrel
    by_cases hlt : k < n
    · obtain ⟨b1, o1, y, rfl, c1, x0, x1, hx⟩ := HR.out.int hlt
      by_cases e : y = x
      · subst e
        have HF := Lib.hid (fnd_at hx.out HB.out)
        go_wp2
        go_ret
        exact ⟨ret_int HF.out.symm, rfl⟩
      · have HB' : Hid (∀ j, j < k + 1 → l[j]? ≠ some x) := Lib.hid fun j hj q => by
          rcases Nat.lt_succ_iff_lt_or_eq.1 hj with hj | rfl
          · exact HB.out j hj q
          · rw [hx.out] at q; injection q with q; exact e q
        go_wp2
        go_round
        case rel => exact ⟨k + 1, by omega, by go_num, HB'⟩
        case measure => simp [intOf]; omega
    · obtain rfl : k = n := by omega
      have HF : Hid (fnd l x = -1) := Lib.hid (fnd_none fun hm => by
        obtain ⟨j, hj, q⟩ := List.mem_iff_getElem.1 hm
        exact HB.out j (by have := HL.out; omega) (by rw [← q]; exact List.getElem?_eq_getElem hj))
      go_wp2
      go_ret
      exact ⟨ret_int HF.out.symm, rfl⟩

/-- What a call of Unique returns: two slices. -/
def GivesU (W : World) (s : List Int × List Int) (x : Ending) (w' : World) : Prop :=
  ∃ A n c A2 n2 c2, x = .returned (.tuple #[.slice A n c, .slice A2 n2 c2]) ∧ Rd w' w'.heap.size .i64 A n s.1 ∧ Rd w' w'.heap.size .i64 A2 n2 s.2 ∧ Below W.heap.size W w'

/-! ### the map -/

section
variable {H : Type}

/-- The places of the different indices, the last one first. -/
def mpr : List Int → DataW H
  | [] => .map []
  | x :: r => (mpr r).put (.int .i64 x) (.lit (.int .i64 r.length))

theorem mpr_isMap : ∀ r : List Int, Maps.IsMap (mpr (H := H) r)
  | [] => Maps.isMap_empty
  | _ :: r => (mpr_isMap r).put _ _

theorem lit_ne {x y : Int} (h : x ≠ y) : Lit.int .i64 x ≠ Lit.int .i64 y := fun e => h (by injection e)

theorem mpr_has : ∀ (r : List Int) (x : Int), Maps.has (mpr (H := H) r) (.int .i64 x) = decide (x ∈ r)
  | [], x => rfl
  | y :: r, x => by
    by_cases h : x = y
    · subst h
      rw [mpr, Maps.has_put_same (mpr_isMap r) (show WideAt.IsKeyLit (.int .i64 x) from trivial)]
      simp
    · rw [mpr, Maps.has_put_other (lit_ne h), mpr_has r x]
      simp [h]

theorem mpr_at : ∀ (r : List Int) (x : Int) (z : DataW H), r.Nodup → x ∈ r → (mpr (H := H) r).atKey (.int .i64 x) z = .lit (.int .i64 (fnd r.reverse x))
  | y :: r, x, z, hn, hm => by
    obtain ⟨h1, h2⟩ := List.nodup_cons.1 hn
    by_cases h : x = y
    · subst h
      rw [mpr, Maps.atKey_put_same (mpr_isMap r) (show WideAt.IsKeyLit (.int .i64 x) from trivial), List.reverse_cons, fnd_last (by simpa using h1), List.length_reverse]
    · have hr : x ∈ r := (List.mem_cons.1 hm).resolve_left h
      rw [mpr, Maps.atKey_put_other (lit_ne h), mpr_at r x z h2 hr, List.reverse_cons, fnd_append (by simpa using hr)]
end

theorem lawK : Keyed Try.prog 3 := Maps.int_keyed Try.underlying3

theorem zeroI (w : World) : (zeroValue 3).run Try.prog w = .ok (.int .i64 0) w := by kernel_rfl

section
variable {w w' : World} {base b n c k : Nat} {e : TypeId} {l : List Value}

theorem OwnV.stay (h : OwnV w base e b n c l) (q : w'.heap[b]? = w.heap[b]?) (hs : base ≤ w'.heap.size) : OwnV w' base e b n c l := by
  refine ⟨⟨h.1.1, h.1.2.imp id ?_⟩, hs⟩
  rintro ⟨g, cap, cur, hv, hb, hh, rest⟩
  refine ⟨g, cap, cur, hv, hb, ?_, rest⟩
  simp only [Value.slice.injEq, Option.some.injEq] at hv
  obtain ⟨hg, _⟩ := hv
  injection hg with hg
  subst hg
  rw [q]; exact hh

theorem Own.stay {kd : IntKind} {A : Option Addr} {l : List Int} (h : Own w base e kd A n c l) (q : ∀ g, A = some g → w'.heap[g.block]? = w.heap[g.block]?) (hs : base ≤ w'.heap.size) : Own w' base e kd A n c l := by
  refine ⟨⟨h.1.1, h.1.2.imp id ?_⟩, h.2.1, hs⟩
  rintro ⟨g, cap, cur, hv, hb, hh, rest⟩
  refine ⟨g, cap, cur, hv, hb, ?_, rest⟩
  simp only [Value.slice.injEq] at hv
  rw [q _ hv.1]; exact hh

theorem ownsMap_stay {H : Type} {P : Program} {k : TypeId} {R : Value → Option (DataW H × List MemPlace)} {D : DataW H} (h : w.ownsMap P k R b n D) (q : w'.heap[b]? = w.heap[b]?) : w'.ownsMap P k R b n D := by
  obtain ⟨es, clock, hb, r⟩ := h
  exact ⟨es, clock, by rw [q]; exact hb, r⟩

theorem heap_set (w : World) (b j k : Nat) (v : Value) (h : k ≠ b) : (w.setCell ⟨b, j, none⟩ v).heap[k]? = w.heap[k]? := Below.heap_setCell _ _ _ k h
end

/-- What lies in memory behind k rounds: the positions in block b, the map in block m, the different indices from block h on. -/
def UInv (w wr : World) (b m h n k q : Nat) (A : Option Addr) (c : Nat) (d p : List Int) : Prop :=
  OwnV wr w.heap.size 3 b n n ((p ++ List.replicate (n - k) 0).map (Value.int .i64)) ∧ wr.ownsMap Try.prog 3 (plainElem Try.prog 3) m q (mpr (H := Unit) d.reverse) ∧
    Own wr h 3 .i64 A d.length c d ∧ w.heap.size ≤ b ∧ b < m ∧ m < h ∧ Below w.heap.size w wr

section
variable {w wr W1 : World} {b m h n k q : Nat} {A : Option Addr} {c : Nat} {d p : List Int}

theorem UInv.pos (I : UInv w wr b m h n k q A c d p) (hk : k < n) (hp : p.length = k) : (∃ u, wr.cell? ⟨b, k, none⟩ = some u) ∧ wr.frozen? ⟨b, k, none⟩ = false ∧ ∀ v, UInv w (wr.setCell ⟨b, k, none⟩ (.int .i64 v)) b m h n (k + 1) q A c d (p ++ [v]) := by
  obtain ⟨o, om, od, h1, h2, h3, BB⟩ := I
  refine ⟨⟨_, o.cell (List.getElem?_eq_getElem (by rw [o.len]; exact hk))⟩, o.frozen, fun v => ?_⟩
  obtain ⟨s, B⟩ := o.set (j := k) (.int .i64 v)
  refine ⟨?_, ownsMap_stay om (heap_set _ _ _ _ _ (by omega)), od.stay (fun g hg => heap_set _ _ _ _ _ ?_) (by simpa using od.2.2), h1, h2, h3, BB.trans B⟩
  · obtain ⟨r, rfl⟩ : ∃ r, n = k + 1 + r := ⟨n - (k + 1), by omega⟩
    rw [show k + 1 + r - k = r + 1 by omega, List.map_append, List.map_replicate, fill_set _ _ _ _ _ (by simpa using hp)] at s
    rw [show k + 1 + r - (k + 1) = r by omega]
    simpa using s
  · have := (od.1.lt g.block (by subst hg; rfl)).1
    omega

theorem UInv.map (I : UInv w wr b m h n k q A c d p) {v : Int} (om : W1.ownsMap Try.prog 3 (plainElem Try.prog 3) m (q + 1) (mpr (H := Unit) (v :: d.reverse))) (g : wr.grownBy W1 (some m)) :
    OwnV W1 w.heap.size 3 b n n ((p ++ List.replicate (n - k) 0).map (Value.int .i64)) ∧ Own W1 h 3 .i64 A d.length c d ∧ Below w.heap.size w W1 := by
  obtain ⟨o, _, od, h1, h2, h3, BB⟩ := I
  have hb := (o.1.lt b rfl).2
  exact ⟨o.stay (g.block b hb (by simp; omega)) (Nat.le_trans o.2 g.size), od.stay (fun q hq => g.block _ (od.1.lt q.block (by subst hq; rfl)).2 (by have := (od.1.lt q.block (by subst hq; rfl)).1; simp; omega)) (Nat.le_trans od.2.2 g.size),
    BB.grown g BB.size (fun q hq => by cases hq; omega)⟩

theorem UInv.app {W2 : World} {A' : Option Addr} {c' : Nat} {v : Int} (o : OwnV W1 w.heap.size 3 b n n ((p ++ List.replicate (n - k) 0).map (Value.int .i64))) (om : W1.ownsMap Try.prog 3 (plainElem Try.prog 3) m (q + 1) (mpr (H := Unit) (v :: d.reverse))) (h1 : w.heap.size ≤ b) (h2 : b < m) (h3 : m < h) (BB : Below w.heap.size w W1)
    (own : Own W2 h 3 .i64 A' (d ++ [v]).length c' (d ++ [v])) (B : Below h W1 W2) :
    UInv w W2 b m h n k (q + 1) A' c' (d ++ [v]) p := by
  refine ⟨o.stay (B.block b (by omega)) (Nat.le_trans o.2 B.size), ?_, own, h1, h2, h3, BB.trans (B.mono (by omega))⟩
  have := ownsMap_stay om (B.block m h3)
  simpa using this
theorem UInv.more (I : UInv w wr b m h n k q A c d p) (hq : q ≤ k) : UInv w wr b m h n k k A c d p := ⟨I.1, I.2.1.mono hq, I.2.2⟩
end

theorem mpr_in {d : List Int} {x q cc : Int} (hn : d.Nodup) (hm : x ∈ d) (hq : fnd d x = q) (hat : (mpr (H := Unit) d.reverse).atKey (.int .i64 x) (.lit (.int .i64 0)) = .lit (.int .i64 cc)) : cc = q := by
  have h1 := mpr_at (H := Unit) d.reverse x (.lit (.int .i64 0)) (by unfold List.Nodup; rw [List.pairwise_reverse]; exact hn.imp fun h => h.symm) (by simpa using hm)
  rw [hat, List.reverse_reverse, hq] at h1
  injection h1 with h1
  injection h1

theorem keyI {x : Int} (h : -9223372036854775808 ≤ x ∧ x ≤ 9223372036854775807) : keyOf Try.prog 3 (.int .i64 x) = some (.int .i64 x) := Maps.keyOf_int_mk Try.underlying3 (by simp [Lit.wf, IntKind.min, IntKind.max, IntKind.bits, IntKind.signed]; omega)

theorem elemI {x : Int} (h : -9223372036854775808 ≤ x ∧ x ≤ 9223372036854775807) : plainElem (H := Unit) Try.prog 3 (.int .i64 x) = some (.lit (.int .i64 x), []) := plainElem_int Try.underlying3 (by simp [Lit.wf, IntKind.min, IntKind.max, IntKind.bits, IntKind.signed]; omega)

set_option maxRecDepth 100000 in
set_option maxHeartbeats 2000000 in
theorem unique_b (A : Option Addr) (n c : Nat) (l : List Int) (w : World) (R : Rd w w.heap.size .i64 A n l) (hn : n ≤ 1099511627776) :
    Calls Try.prog 23 #[.slice A n c] w (GivesU w (uq l)) := by
  have KR := Lib.hid R
  have hl := R.len
  have HOK := Lib.hid (fun k (hk : k ≤ n) => uq_ok l k (by rw [hl]; exact hk))
  have HE : Hid (uq (l.take n) = uq l) := Lib.hid (by rw [← hl, List.take_length])
  have HL1 := Lib.hid (fun k (hk : k ≤ n) => uq_len1 l k (by rw [hl]; exact hk))
  have HL2 := Lib.hid (fun k (hk : k ≤ n) => uq_len2 l k (by rw [hl]; exact hk))
  have hmm := @run_makeMap Try.prog
  clear R hl
  go_enter Try.func23, Try.ntmps23
  go_wp2_with (refine wpList_makeV _ rfl _ _ _ rfl Try.underlying30 iI64 rfl .i64 .i64 n rfl rfl (by omega) (by simp only [maxLen]; omega) w.heap.size (Nat.le_refl _) ?_; intro bd W1 own1 B1 hbd)
  have hlt1 := (own1.1.lt bd rfl).2
  obtain ⟨m, hm⟩ : ∃ m, W1.heap.size = m := ⟨_, rfl⟩
  have I0 : Hid (UInv w (W1.alloc (.map #[] 0)) bd m (m + 1) n 0 0 none 0 [] []) := Lib.hid (by
    subst hm
    have BM : Below W1.heap.size W1 (W1.alloc (.map #[] 0)) := (Below.refl _ _).alloc (Nat.le_refl _) _
    refine ⟨?_, World.ownsMap_made _ _ _ _, ?_, hbd, hlt1, Nat.lt_succ_self _, bon B1 BM⟩
    · rw [List.nil_append, Nat.sub_zero, List.map_replicate]; exact own1.on BM
    · have := Own.nil (W1.alloc (.map #[] 0)) 3 .i64
      simpa using this)
  clear own1 B1 hbd hlt1
  rw [hm]
  clear hm
  go_loopw [4, 17] (fun t i wr => ∃ (k c3 : Nat) (A3 : Option Addr), k ≤ n ∧ i = .int .i64 (k : Int) ∧ t = .slice A3 (uq (l.take k)).1.length c3 ∧ UInv w wr bd m (m + 1) n k k A3 c3 (uq (l.take k)).1 (uq (l.take k)).2) (fun _ i _ => n - (intOf i).toNat)
  case atStart => exact ⟨0, 0, none, by omega, rfl, rfl, I0.out⟩
  case round =>
    clear I0 hmm
    obtain ⟨k, c3, A3, hk, rfl, rfl, I⟩ := hrel
    rename World => wr
    by_cases hlt : k < n
    · have BB : Below w.heap.size w wr := I.2.2.2.2.2.2
      obtain ⟨b1, o1, x, rfl, cx, x0, x1, hx⟩ := ((KR.out.below BB).more BB.size).int hlt
      have hs := uq_snoc hx.out
      have hok := HOK.out k hk
      have hl1 := HL1.out k hk
      have hl2 := HL2.out k hk
      obtain ⟨⟨d, p⟩, hdp⟩ : ∃ s, uq (l.take k) = s := ⟨_, rfl⟩
      rw [hdp] at hs hok hl1 hl2 I ⊢
      simp only at hl1 hl2 I ⊢
      have HP := I.pos hlt hl2
      obtain ⟨⟨u, cu⟩, fz, hst⟩ := HP
      have HST := Lib.hid hst
      have HS := Lib.hid hs
      have HO := Lib.hid hok
      have II := Lib.hid I
      have HL := Lib.hid hl2
      clear hst hs hok hl2 hx I hdp BB
      by_cases hneg : x < 0
      · have HS' : Hid (uq (l.take (k + 1)) = (d, p ++ [-1])) := Lib.hid (by rw [HS.out]; unfold uqs; rw [if_pos hneg])
        clear HS
        go_wp2
        go_roundw
        case rel => exact ⟨k + 1, c3, A3, by omega, by go_num, by rw [HS'.out], by rw [HS'.out]; exact (HST.out _).more (by omega)⟩
        case measure => simp [intOf]; omega
      · by_cases hmem : x ∈ d
        · obtain ⟨q, hq⟩ : ∃ q, fnd d x = q := ⟨_, rfl⟩
          have HS' : Hid (uq (l.take (k + 1)) = (d, p ++ [q])) := Lib.hid (by rw [HS.out]; unfold uqs; rw [if_neg hneg, if_pos hmem, hq])
          have hsn : Maps.has (mpr (H := Unit) d.reverse) (.int .i64 x) = true := by rw [mpr_has]; simpa using hmem
          have HSN := Lib.hid hsn
          have HIN := Lib.hid (fun cc hat => mpr_in (cc := cc) HO.out.nd hmem hq hat)
          have HX : Hid (-9223372036854775808 ≤ x ∧ x ≤ 9223372036854775807) := Lib.hid ⟨x0, x1⟩
          clear HS hsn hmem hq
          go_wp2_with (at_lookup; refine wpList_lookup_own_ok_int _ rfl _ _ 51 rfl 3 3 .i64 lawK Try.underlying51 Try.underlying3 (zeroI _) m k _ rfl II.out.2.1 _ _ rfl (keyI HX.out) ?_; intro cc hat hwc; rw [HSN.out]; obtain rfl := HIN.out cc hat; clear hat hwc)
          go_roundw
          case rel => exact ⟨k + 1, c3, A3, by omega, by go_num, by rw [HS'.out], by rw [HS'.out]; exact (HST.out _).more (by omega)⟩
          case measure => simp [intOf]; omega
        · have HS' : Hid (uq (l.take (k + 1)) = (d ++ [x], p ++ [(d.length : Int)])) := Lib.hid (by rw [HS.out]; unfold uqs; rw [if_neg hneg, if_neg hmem])
          have HSN : Hid (Maps.has (mpr (H := Unit) d.reverse) (.int .i64 x) = false) := Lib.hid (by rw [mpr_has]; simpa using hmem)
          have HX : Hid (-9223372036854775808 ≤ x ∧ x ≤ 9223372036854775807) := Lib.hid ⟨x0, x1⟩
          have HD : Hid ((d.length : Int) = ((d.reverse.length : Nat) : Int)) := Lib.hid (by simp)
          clear HS hmem cu fz HST
          go_wp2_with (first
            | (at_lookup; refine wpList_lookup_own_ok_int _ rfl _ _ 51 rfl 3 3 .i64 lawK Try.underlying51 Try.underlying3 (zeroI _) m k _ rfl II.out.2.1 _ _ rfl (keyI HX.out) ?_; intro cc hat hwc; rw [HSN.out]; clear hat hwc)
            | (at_mapUpdate; refine wpList_mapUpdate_own _ rfl _ _ _ 51 rfl 3 3 lawK Try.underlying51 _ m k _ rfl II.out.2.1 (by simp only [maxLen]; omega) _ _ _ rfl rfl (keyI HX.out) _ [] (elemI (by omega)) ?_; intro w1 om g1; rw [HD.out] at om; have M1 := Lib.hid (II.out.map (v := x) om g1); have OM := Lib.hid om; clear om g1)
            | (refine wpList_app1 _ rfl _ _ _ rfl elInts M1.out.2.1 rfl HX.out rfl (by simp only [maxLen]; omega) (by omega) ?_; intro A7 n7 c7 W7 own7 B7; obtain rfl : n7 = (d ++ [x]).length := own7.len.symm; have I7 := UInv.app M1.out.1 OM.out II.out.2.2.2.1 II.out.2.2.2.2.1 II.out.2.2.2.2.2.1 M1.out.2.2 own7 B7; obtain ⟨⟨u, cu⟩, fz, hst⟩ := I7.pos hlt HL.out; have HST := Lib.hid hst; clear own7 B7 I7 hst))
          go_roundw
          case rel => exact ⟨k + 1, c7, A7, by omega, by go_num, by (rw [HS'.out]; first | done | simp), by rw [HS'.out]; exact HST.out _⟩
          case measure => simp [intOf]; omega
    · obtain rfl : k = n := by omega
      have II := Lib.hid I
      have HP : Hid (((uq (l.take k)).2 ++ List.replicate (k - k) 0).map (Value.int .i64) = (uq (l.take k)).2.map (Value.int .i64)) := Lib.hid (by rw [Nat.sub_self]; simp)
      have HOK' := Lib.hid (HOK.out k hk)
      have HRG : Hid (∀ y ∈ (uq (l.take k)).2, IntKind.i64.min ≤ y ∧ y ≤ IntKind.i64.max) := Lib.hid fun y hy => by
        obtain ⟨i, hi, q⟩ := List.mem_iff_getElem.1 hy
        have h2 := HL2.out k hk
        have h1 := HL1.out k hk
        have hlen := HOK'.out.len
        obtain ⟨p, hp, hc⟩ := HOK'.out.at_ i _ (List.getElem?_eq_getElem (by omega))
        rw [List.getElem?_eq_getElem hi, q] at hp
        injection hp with hp
        subst hp
        rw [i64_min, i64_max]
        rcases hc with ⟨_, rfl⟩ | ⟨_, h0, h3⟩
        · omega
        · have := (List.getElem?_eq_some_iff.1 h3).1
          omega
      clear I
      go_wp2
      have o := II.out.1
      rw [HP.out] at o
      refine bodyPost_ret (v := .tuple #[.slice A3 (uq (l.take k)).1.length c3, .slice (some ⟨bd, 0, none⟩) k k]) (by simp [results, Try.results23, go_sem]) rfl ⟨_, _, _, _, _, _, rfl, ?_, ?_, II.out.2.2.2.2.2.2⟩
      · rw [← HE.out]; exact II.out.2.2.1.rd
      · rw [← HE.out]; exact (o.ints HRG.out).rd

/-- The numbers of Unique's results are ints. -/
theorem uq_rng {l : List Int} (h : ∀ x ∈ l, IntKind.i64.min ≤ x ∧ x ≤ IntKind.i64.max) (hl : l.length ≤ 1099511627776) : ∀ k, k ≤ l.length → (∀ x ∈ (uq (l.take k)).1, IntKind.i64.min ≤ x ∧ x ≤ IntKind.i64.max) ∧ ∀ x ∈ (uq (l.take k)).2, IntKind.i64.min ≤ x ∧ x ≤ IntKind.i64.max := by
  intro k
  induction k with
  | zero => intro _; simp [uq]
  | succ k ih =>
    intro hk
    obtain ⟨i1, i2⟩ := ih (by omega)
    have hx : l[k]? = some (l[k]'(by omega)) := List.getElem?_eq_getElem (by omega)
    have hr := h _ (List.mem_of_getElem? hx)
    have hlen := uq_len1 l k (by omega)
    rw [uq_snoc hx]
    obtain ⟨x, hxx⟩ : ∃ x, l[k]'(by omega) = x := ⟨_, rfl⟩
    rw [hxx] at hr ⊢
    obtain ⟨⟨d, p⟩, hs⟩ : ∃ s, uq (l.take k) = s := ⟨_, rfl⟩
    rw [hs] at i1 i2 hlen ⊢
    simp only at i1 i2 hlen
    have hf := fnd_rng d x
    have hp : ∀ q : Int, -1 ≤ q → q ≤ 1099511627776 → ∀ y ∈ p ++ [q], IntKind.i64.min ≤ y ∧ y ≤ IntKind.i64.max := fun q h0 h1 y hy => by
      rcases List.mem_append.1 hy with hy | hy
      · exact i2 y hy
      · simp at hy; subst hy; rw [i64_min, i64_max]; omega
    unfold uqs
    split
    · exact ⟨i1, hp _ (by first | omega | (simp only; omega)) (by first | omega | (simp only; omega))⟩
    · split
      · exact ⟨i1, hp _ (by first | omega | (simp only; omega)) (by first | omega | (simp only; omega))⟩
      · refine ⟨fun y hy => ?_, hp _ (by first | omega | (simp only; omega)) (by first | omega | (simp only; omega))⟩
        rcases List.mem_append.1 hy with hy | hy
        · exact i1 y hy
        · simp at hy; subst hy; exact hr

abbrev OwnI64 (w : World) (base : Nat) (A : Option Addr) (n c : Nat) (l : List Int) : Prop := OwnE (enc1 .i64) 1 w base 3 A n c l

/-- Two lists of the reference's Unique, in rows of their own. -/
def RInv (w wr : World) (A : Option Addr) (c : Nat) (A2 : Option Addr) (c2 : Nat) (d p : List Int) : Prop :=
  OwnI64 wr w.heap.size A d.length c d ∧ OwnI64 wr w.heap.size A2 p.length c2 p ∧ (∀ g g', A = some g → A2 = some g' → g.block ≠ g'.block) ∧ Below w.heap.size w wr

theorem RInv.one {w wr : World} {A A2 : Option Addr} {c c2 : Nat} {d p : List Int} (I : RInv w wr A c A2 c2 d p) : OwnI64 wr w.heap.size A d.length c d := I.1

theorem RInv.two {w wr : World} {A A2 : Option Addr} {c c2 : Nat} {d p : List Int} (I : RInv w wr A c A2 c2 d p) : OwnI64 wr w.heap.size A2 p.length c2 p := I.2.1

theorem RInv.rd {w wr : World} {A A2 : Option Addr} {c c2 : Nat} {d p : List Int} (I : RInv w wr A c A2 c2 d p) (h : ∀ y ∈ d, IntKind.i64.min ≤ y ∧ y ≤ IntKind.i64.max) : Rd wr wr.heap.size .i64 A d.length d := (I.1.toI h).rd

theorem RInv.rd1 {w wr : World} {A A2 : Option Addr} {c c2 : Nat} {d p : List Int} {x : Int} (I : RInv w wr A c A2 c2 (d ++ [x]) p) (h : ∀ y ∈ d ++ [x], IntKind.i64.min ≤ y ∧ y ≤ IntKind.i64.max) : Rd wr wr.heap.size .i64 A (d.length + 1) (d ++ [x]) := by
  have := I.rd h
  simpa using this

theorem RInv.on {w wr W1 : World} {A A2 : Option Addr} {c c2 : Nat} {d p : List Int} (I : RInv w wr A c A2 c2 d p) (B : Below wr.heap.size wr W1) : RInv w W1 A c A2 c2 d p :=
  ⟨I.1.on B, I.2.1.on B, I.2.2.1, bon I.2.2.2 B⟩

theorem RInv.first {w wr W1 : World} {A A2 A' : Option Addr} {c c2 c' : Nat} {d p : List Int} {v : Int} (I : RInv w wr A c A2 c2 d p) (o : OwnI64 W1 w.heap.size A' (d.length + 1) c' (d ++ [v])) (B : Below w.heap.size wr W1) (H : Apart wr W1 A A') : RInv w W1 A' c' A2 c2 (d ++ [v]) p := by
  refine ⟨by simpa using o, I.2.1.stay (fun g hg => H.same (I.2.1.lt hg).2 fun r hr => I.2.2.1 r g hr hg) (Nat.le_trans I.2.1.2.1 H.2.2), fun g g' hg hg' => ?_, I.2.2.2.trans B⟩
  rcases H.2.1 g hg with ⟨r, hr, e⟩ | e
  · rw [← e]; exact I.2.2.1 r g' hr hg'
  · have := (I.2.1.lt hg').2; omega

theorem RInv.second {w wr W1 : World} {A A2 A' : Option Addr} {c c2 c' : Nat} {d p : List Int} {v : Int} (I : RInv w wr A c A2 c2 d p) (o : OwnI64 W1 w.heap.size A' (p.length + 1) c' (p ++ [v])) (B : Below w.heap.size wr W1) (H : Apart wr W1 A2 A') : RInv w W1 A c A' c' d (p ++ [v]) := by
  refine ⟨I.1.stay (fun g hg => H.same (I.1.lt hg).2 fun r hr e => I.2.2.1 g r hg hr e.symm) (Nat.le_trans I.1.2.1 H.2.2), by simpa using o, fun g g' hg hg' => ?_, I.2.2.2.trans B⟩
  rcases H.2.1 g' hg' with ⟨r, hr, e⟩ | e
  · rw [← e]; exact I.2.2.1 g r hg hr
  · have := (I.1.lt hg).2; omega

set_option maxRecDepth 100000 in
set_option maxHeartbeats 2000000 in
theorem runique_b (A : Option Addr) (n c : Nat) (l : List Int) (w : World) (R : Rd w w.heap.size .i64 A n l) (hn : n ≤ 1099511627776) :
    Calls Try.prog 24 #[.slice A n c] w (GivesU w (uq l)) := by
  have KR := Lib.hid R
  have hl := R.len
  have HOK := Lib.hid (fun k (hk : k ≤ n) => uq_ok l k (by rw [hl]; exact hk))
  have HE : Hid (uq (l.take n) = uq l) := Lib.hid (by rw [← hl, List.take_length])
  have HL1 := Lib.hid (fun k (hk : k ≤ n) => uq_len1 l k (by rw [hl]; exact hk))
  have HL2 := Lib.hid (fun k (hk : k ≤ n) => uq_len2 l k (by rw [hl]; exact hk))
  have HRG := Lib.hid (fun k (hk : k ≤ n) => uq_rng R.rng (by omega) k (by rw [hl]; exact hk))
  have I0 : Hid (RInv w ((w.alloc (.cells #[] 3)).alloc (.cells #[] 3)) (some ⟨w.heap.size, 0, none⟩) 0 (some ⟨w.heap.size + 1, 0, none⟩) 0 [] []) := Lib.hid (by
    have b1 := box_below w #[] 3
    have b2 := box_below (w.alloc (.cells #[] 3)) #[] 3
    have o1 := (Own.made w 3 .i64).toE.on b2
    have o2 := (Own.made (w.alloc (.cells #[] 3)) 3 .i64).toE
    have z : (w.alloc (.cells #[] 3)).heap.size = w.heap.size + 1 := by simp
    rw [z] at o2
    refine ⟨o1, ⟨⟨o2.1.1, o2.1.2.imp id fun ⟨g, cap, cur, h1, h2, h3⟩ => ⟨g, cap, cur, h1, by omega, h3⟩⟩, by have := o2.2.1; omega, o2.2.2⟩, fun g g' hg hg' => ?_, bon b1 b2⟩
    cases hg
    cases hg'
    simp)
  clear R hl
  go_enter Try.func24, Try.ntmps24
  go_wp2_with fail
  go_loopw [4, 5, 6] (fun t u i wr => ∃ (k c3 c4 : Nat) (A3 A4 : Option Addr), k ≤ n ∧ i = .int .i64 (k : Int) ∧ t = .slice A3 (uq (l.take k)).1.length c3 ∧ u = .slice A4 (uq (l.take k)).2.length c4 ∧ RInv w wr A3 c3 A4 c4 (uq (l.take k)).1 (uq (l.take k)).2) (fun _ _ i _ => n - (intOf i).toNat)
  case atStart => exact ⟨0, 0, 0, _, _, by omega, rfl, rfl, rfl, I0.out⟩
  case round =>
    clear I0
    obtain ⟨k, c3, c4, A3, A4, hk, rfl, rfl, rfl, I⟩ := hrel
    rename World => wr
    by_cases hlt : k < n
    · have BB : Below w.heap.size w wr := I.2.2.2
      obtain ⟨b1, o1, x, rfl, cx, x0, x1, hx⟩ := ((KR.out.below BB).more BB.size).int hlt
      have hs := uq_snoc hx.out
      have hok := HOK.out k hk
      have hl1 := HL1.out k hk
      have hrg := HRG.out k hk
      have hrg1 := HRG.out (k + 1) hlt
      rw [hs] at hrg1
      obtain ⟨⟨d, p⟩, hdp⟩ : ∃ s, uq (l.take k) = s := ⟨_, rfl⟩
      have hl2 : p.length ≤ k := by have := HL2.out k hk; rw [hdp] at this; exact Nat.le_of_eq this
      rw [hdp] at hs hok hl1 hrg hrg1 I ⊢
      simp only at hl1 hrg I ⊢
      have HX : Hid (-9223372036854775808 ≤ x ∧ x ≤ 9223372036854775807) := Lib.hid ⟨x0, x1⟩
      by_cases hm : 0 ≤ x ∧ x ∉ d
      · obtain ⟨hx0, hmem⟩ := hm
        have hq : fnd d x < 0 := fnd_neg.2 hmem
        have hq2 : fnd (d ++ [x]) x = d.length := fnd_last hmem
        have HS' : Hid (uq (l.take (k + 1)) = (d ++ [x], p ++ [(d.length : Int)])) := Lib.hid (by rw [hs]; unfold uqs; rw [if_neg (by omega), if_neg hmem])
        have HRD : Hid (∀ y ∈ d ++ [x], IntKind.i64.min ≤ y ∧ y ≤ IntKind.i64.max) := Lib.hid (by
          have := hrg1.1
          unfold uqs at this
          rwa [if_neg (by omega), if_neg hmem] at this)
        have CF := Lib.hid (fun A n c W R hn => rfind_b A n c d x W R hn)
        have CG := Lib.hid (fun A n c W R hn => rfind_b A n c (d ++ [x]) x W R hn)
        rw [hq2] at CG
        obtain ⟨q, hqq⟩ : ∃ q, fnd d x = q := ⟨_, rfl⟩
        rw [hqq] at hq CF
        have HR1 := Lib.hid hrg.1
        have II := Lib.hid I
        clear hs hok hrg hrg1 hx I hdp BB hmem hq2 hqq
        go_wp2_with (first
          | (go_at_call 35; (with_reducible refine (CF.out _ _ _ _ (II.out.rd HR1.out) (by omega)).mono ?_); rintro _ _ ⟨rfl, rfl⟩)
          | (refine wpList_app1H _ rfl _ _ _ rfl (enc1_is .i64) elInts.toE II.out.one rfl x rfl rfl (by simp only [maxLen]; omega) (by omega) ?_; intro A7 c7 W7 own7 B7 H7; have I7 := Lib.hid (II.out.first own7 B7 H7); clear own7 B7 H7)
          | (go_at_call 35; (with_reducible refine (CG.out _ _ _ _ (I7.out.rd1 HRD.out) (by omega)).mono ?_); rintro _ _ ⟨rfl, rfl⟩)
          | (refine wpList_app1H _ rfl _ _ _ rfl (enc1_is .i64) elInts.toE I7.out.two rfl (d.length : Int) rfl rfl (by simp only [maxLen]; omega) (by omega) ?_; intro A8 c8 W8 own8 B8 H8; have I8 := Lib.hid (I7.out.second own8 B8 H8); clear own8 B8 H8))
        go_roundw
        case rel => exact ⟨k + 1, c7, c8, A7, A8, by omega, by go_num, by (rw [HS'.out]; first | done | simp), by (rw [HS'.out]; first | done | simp), by rw [HS'.out]; exact I8.out⟩
        case measure => simp [intOf]; omega
      · obtain ⟨q, hq⟩ : ∃ q, fnd d x = q := ⟨_, rfl⟩
        have hqn : 0 ≤ x → ¬ q < 0 := fun h0 h1 => hm ⟨h0, fnd_neg.1 (by rw [hq]; exact h1)⟩
        have HS' : Hid (uq (l.take (k + 1)) = (d, p ++ [q])) := Lib.hid (by rw [hs, uqs_ref hok.nn, if_neg (fun h => hm ⟨h.1, fnd_neg.1 h.2⟩), hq])
        have CF := Lib.hid (fun A n c W R hn => rfind_b A n c d x W R hn)
        rw [hq] at CF
        have HR1 := Lib.hid hrg.1
        have II := Lib.hid I
        clear hs hok hrg hrg1 hx I hdp BB hm hq
        rcases Int.lt_or_le x 0 with hneg | hpos
        all_goals
          try replace hqn := hqn ‹0 ≤ x›
          go_wp2_with (first
            | (go_at_call 35; (with_reducible refine (CF.out _ _ _ _ (II.out.rd HR1.out) (by omega)).mono ?_); rintro _ _ ⟨rfl, rfl⟩)
            | (refine wpList_app1H _ rfl _ _ _ rfl (enc1_is .i64) elInts.toE II.out.two rfl q rfl rfl (by simp only [maxLen]; omega) (by omega) ?_; intro A8 c8 W8 own8 B8 H8; have I8 := Lib.hid (II.out.second own8 B8 H8); clear own8 B8 H8))
          go_roundw
          case rel => exact ⟨k + 1, c3, c8, A3, A8, by omega, by go_num, by (rw [HS'.out]; first | done | simp), by (rw [HS'.out]; first | done | simp), by rw [HS'.out]; exact I8.out⟩
          case measure => simp [intOf]; omega
    · obtain rfl : k = n := by omega
      have II := Lib.hid I
      clear I
      go_wp2
      have hr := HRG.out k hk
      refine bodyPost_ret (v := .tuple #[.slice A3 (uq (l.take k)).1.length c3, .slice A4 (uq (l.take k)).2.length c4]) (by simp [results, Try.results24, go_sem]) rfl ⟨_, _, _, _, _, _, rfl, ?_, ?_, II.out.2.2.2⟩
      · rw [← HE.out]; exact (II.out.1.toI hr.1).rd
      · rw [← HE.out]; exact (II.out.2.1.toI hr.2).rd

end Go.Proofs.Ytfakmeimideoaaa
