/- Edges of package assemble. -/
import Derived.Test.YtepammildggnmaaJ12
namespace Go.Proofs.Ytepammildggnmaa
open Go.RowKit Go.Sort Go.ChangeShapes Go.WideShapes
set_option linter.unusedVariables false

theorem flatE_len (ts : List Tri) : (ts.flatMap eof).length ≤ 3 * ts.length := by
  induction ts with
  | nil => simp
  | cons t ts ih =>
    rw [List.flatMap_cons, List.length_append, List.length_cons]
    have := eof_len t
    omega

theorem flatE_snoc {ts : List Tri} {k : Nat} {t : Tri} (h : ts[k]? = some t) : (ts.take (k + 1)).flatMap eof = (ts.take k).flatMap eof ++ eof t := by
  obtain ⟨hk, rfl⟩ := List.getElem?_eq_some_iff.1 h
  rw [List.take_succ_eq_append_getElem hk, List.flatMap_append]
  simp

theorem RdE.cut {α : Type} {enc : α → List Value} {k : Nat} {w : World} {B n i cap : Nat} {A : Option Addr} {l : List α} (h : RdE enc k w B A n l) (hi : i ≤ n) (hc : n ≤ cap) : RdE enc k w B (if cap = i then A else A.map (·.add (i * k))) (n - i) (l.drop i) := by
  refine ⟨by rw [List.length_drop, h.1], fun hn => ?_⟩
  obtain ⟨b, off, rfl, hlt, hcell⟩ := h.2 (by omega)
  rw [if_neg (by omega)]
  refine ⟨b, off + i * k, by simp [add_plain'], hlt, fun j x hx => ?_⟩
  rw [List.getElem?_drop] at hx
  have := hcell (i + j) x hx
  rwa [Nat.add_mul, ← Nat.add_assoc] at this

/-- A slice's length. -/
def lenV : Value → Nat
  | .slice _ n _ => n
  | _ => 0

set_option maxRecDepth 100000 in
set_option maxHeartbeats 4000000 in
theorem edges_b (A : Option Addr) (n c : Nat) (ts : List Tri) (w : World) (R : RdT w w.heap.size A n ts) (hn : n ≤ 1048576) :
    Calls Try.prog 24 #[.slice A n c] w (GivesD w (redg ts ts)) := by
  have KR := Lib.hid R
  have HL := Lib.hid R.len
  have HFIN : Hid (∀ d : List Ed, d.Perm (ts.flatMap eof) → wasc d → grp d.length d = redg ts ts) := Lib.hid fun d hp hs => isEdges_ext (grp_edges hp hs) (redg_edges ts)
  obtain ⟨G, hG⟩ : ∃ G, redg ts ts = G := ⟨_, rfl⟩
  rw [hG] at HFIN ⊢
  have O0 := Lib.hid (OwnE.nil ed 2 w 49)
  have B0 := Below.refl w.heap.size w
  clear R hG
  go_enter Try.func24, Try.ntmps24
  go_wp2
  go_loopw [3, 10] (fun u i wr => ∃ (j m c5 : Nat) (A5 : Option Addr), j ≤ n ∧ i = .int .i64 (j : Int) ∧ u = .slice A5 m c5 ∧ OwnD wr w.heap.size A5 m c5 ((ts.take j).flatMap eof) ∧ Below w.heap.size w wr) (fun _ i _ => n - (intOf i).toNat)
  case atStart => exact ⟨0, 0, 0, none, by omega, rfl, rfl, O0.out, B0⟩
  case round =>
    clear O0 B0
    obtain ⟨j, m, c5, A5, hj, rfl, rfl, own, B0⟩ := hrel
    rename World => wr
    have hm : m ≤ 3 * j := by
      have h1 := own.len
      have h2 := flatE_len (ts.take j)
      rw [List.length_take, HL.out] at h2
      omega
    by_cases hlt : j < n
    · obtain ⟨b, off, ⟨x, y, z⟩, rfl, hbl, q, hx⟩ := (KR.out.below B0).at_ hlt
      have r1 : wr.rangeAt b (off + j * 3) [.int .i64 x, .int .i64 y, .int .i64 z] := q
      have HS := Lib.hid (flatE_snoc hx.out)
      obtain ⟨es, hes⟩ : ∃ es, (ts.take j).flatMap eof = es := ⟨_, rfl⟩
      rw [hes] at own HS
      have BX := box_below wr #[.int .i64 x, .int .i64 y, .int .i64 z] 24
      have VA : (wr.alloc (.cells #[.int .i64 x, .int .i64 y, .int .i64 z] 24)).rangeAt wr.heap.size 0 [.int .i64 x, .int .i64 y, .int .i64 z] := (EBox.made wr #[.int .i64 x, .int .i64 y, .int .i64 z] 24).1
      have OW1 := Lib.hid (own.on BX)
      have B1 := bon B0 BX
      have h3 := eof_len ⟨x, y, z⟩
      clear own B0 BX q hx hes
      go_wp2_with (first
        | ((with_reducible refine eload3L triK r1 ?_ ?_); focus rfl)
        | ((with_reducible refine estore3L triK ?_ ?_ ?_ ?_); focus rfl; focus rfl; focus rfl)
        | ((with_reducible refine eload3L triK VA ?_ ?_); focus rfl)
        | (go_at_call 30; (with_reducible refine (edgesOf_b x y z _).mono ?_); rintro _ W3 ⟨A3, n3, c3, rfl, R3, B⟩; have OW2 := Lib.hid (OW1.out.on B); replace B1 := bon B1 B; have K3 := Lib.hid R3; have hn3 : n3 ≤ 3 := (by have h4 := R3.len; omega); clear B R3)
        | (refine wpList_appE _ rfl _ _ _ rfl edEnc elEds OW2.out rfl K3.out rfl (by simp only [maxLen]; omega) (by omega) ?_; intro A7 n7 c7 W7 own7 B7; replace B1 := B1.trans B7; have OW7 := Lib.hid own7; clear own7 B7))
      go_roundw
      case rel => exact ⟨j + 1, n7, c7, A7, by omega, by go_num, rfl, by rw [HS.out]; exact OW7.out, B1⟩
      case measure => simp [intOf] <;> omega
    · obtain rfl : j = n := by omega
      have hE : ts.take j = ts := by rw [← HL.out, List.take_length]
      rw [hE] at own
      obtain ⟨es, hes⟩ : ∃ es, ts.flatMap eof = es := ⟨_, rfl⟩
      rw [hes] at own HFIN
      have OW := Lib.hid own
      have HRM := Lib.hid own.room
      clear own hE hes
      go_wp2_with (go_at_call 31; (refine (sort_b A5 m c5 _ es _ OW.out (by omega)).mono ?_); rintro _ W1 ⟨rfl, d, hp, hs, RD, B⟩; replace B0 := B0.trans B; have KD := Lib.hid RD; have HG := Lib.hid (HFIN.out d hp hs); clear B RD hp hs)
      have HM : Hid (d.length = m) := Lib.hid KD.out.len
      have O1 := Lib.hid (OwnE.nil ed 2 W1 49)
      have B1 := Below.refl W1.heap.size W1
      clear OW
      go_loopw [3, 6] (fun u v wr => ∃ (k c3 c6 n6 f : Nat) (A3 A6 : Option Addr) (rest o : List Ed), u = .slice A3 k c3 ∧ v = .slice A6 n6 c6 ∧ RdD wr W1.heap.size A3 k rest ∧ k ≤ c3 ∧ k ≤ f ∧ o ++ grp f rest = G ∧ OwnD wr W1.heap.size A6 n6 c6 o ∧ n6 + k ≤ m ∧ Below W1.heap.size W1 wr) (fun u _ _ => lenV u)
      case atStart => exact ⟨m, c5, 0, 0, m, A5, none, d, [], rfl, rfl, KD.out, HRM.out, Nat.le_refl _, by rw [← HG.out, HM.out]; rfl, O1.out, by omega, B1⟩
      case round =>
        clear O1 B1
        obtain ⟨k, c3, c6, n6, f, A3, A6, rest, o, rfl, rfl, R3, hkc, hkf, hG, own, hnk, B1⟩ := hrel
        rename World => wr
        have HKG := Lib.hid hG
        have OW1 := Lib.hid own
        clear own hG
        rcases rest with _ | ⟨⟨ex, ey⟩, r⟩
        · obtain rfl : k = 0 := by rw [← R3.len]; rfl
          have HGG : Hid (o = G) := Lib.hid (by have h := HKG.out; cases f <;> simpa [grp] using h)
          have BF : Below w.heap.size w wr := B0.trans (B1.mono B0.size)
          have RF : Hid (RdD wr wr.heap.size A6 n6 G) := Lib.hid (by rw [← HGG.out]; exact OW1.out.rd edEnc)
          clear HKG OW1 R3 HGG B1
          go_wp2
          go_ret
          exact ⟨A6, n6, c6, rfl, RF.out, BF⟩
        · have hk0 : k = r.length + 1 := by rw [← R3.len]; rfl
          obtain ⟨f', rfl⟩ : ∃ f', f = f' + 1 := ⟨f - 1, by omega⟩
          have CF := Lib.hid (fun W R => countFirst_b A3 k c3 (⟨ex, ey⟩ :: r) ⟨ex, ey⟩ W R rfl (by omega))
          have hq1 := cfst_le ⟨ex, ey⟩ (⟨ex, ey⟩ :: r)
          have hq0 := cfst_pos ⟨ex, ey⟩ r
          rw [R3.len] at hq1
          have hgr : grp (f' + 1) (⟨ex, ey⟩ :: r) = (if cfst ⟨ex, ey⟩ (⟨ex, ey⟩ :: r) = 2 then [⟨ex, ey⟩] else []) ++ grp f' ((⟨ex, ey⟩ :: r).drop (cfst ⟨ex, ey⟩ (⟨ex, ey⟩ :: r))) := rfl
          have hkg := HKG.out
          rw [hgr] at hkg
          obtain ⟨q, hq⟩ : ∃ q, cfst ⟨ex, ey⟩ (⟨ex, ey⟩ :: r) = q := ⟨_, rfl⟩
          rw [hq] at CF hq1 hq0 hkg
          obtain ⟨b, off, T, rfl, hbl, q2, hx⟩ := R3.at_ (show 0 < k by omega)
          obtain rfl : T = ⟨ex, ey⟩ := by have h9 := hx.out; simpa using h9.symm
          have r0 : wr.rangeAt b off [.int .i64 ex, .int .i64 ey] := by have h := q2; rw [Nat.zero_mul, Nat.add_zero] at h; exact h
          have hbw : b < wr.heap.size := Nat.lt_of_lt_of_le hbl B1.size
          have K3 := Lib.hid R3
          have HKG2 := Lib.hid hkg
          have hq9 : (q : Int) ≤ (k : Int) := by omega
          have hk9 : (k : Int) ≤ (c3 : Int) := by omega
          have hkp : 0 < k := by omega
          clear R3 hgr hkg hq q2 hx HKG hk0
          by_cases h2 : q = 2
          · subst h2
            rw [if_pos rfl] at HKG2
            go_wp2_with (first
              | (go_at_call 33; (with_reducible refine (CF.out _ (K3.out.more B1.size)).mono ?_); rintro _ W3 ⟨rfl, B⟩; have OW2 := Lib.hid (OW1.out.on B); have K4 := Lib.hid (K3.out.below (B.mono B1.size)); replace r0 := rangeAt_below r0 hbw B; replace B1 := bon B1 B; clear B)
              | ((with_reducible refine eload2L edK r0 ?_ ?_); focus rfl)
              | (refine app1Z _ rfl _ _ _ rfl edEnc elEds OW2.out rfl ⟨ex, ey⟩ rfl rfl (by simp) (by simp only [maxLen]; omega) (by omega) ?_; intro A7 n7 c7 W7 own7 B7; have K7 := Lib.hid (K4.out.below B7); replace B1 := B1.trans B7; have OW7 := Lib.hid own7; have H7 : Hid (n7 = n6 + 1) := Lib.hid (by have h9 := own7.len; rw [List.length_append, OW2.out.len] at h9; exact h9.symm); clear own7 B7))
            have KC := K7.out.cut hq1 hkc
            simp only [Option.map_some, add_plain'] at KC
            go_roundw
            case rel => exact ⟨k - 2, c3 - 2, c7, n7, f', _, A7, _, o ++ [⟨ex, ey⟩], rfl, rfl, KC, by omega, by omega, by rw [List.append_assoc]; exact HKG2.out, OW7.out, by have := H7.out; omega, B1⟩
            case measure => simp only [lenV]; omega
          · rw [if_neg h2] at HKG2
            go_wp2_with (first
              | (go_at_call 33; (with_reducible refine (CF.out _ (K3.out.more B1.size)).mono ?_); rintro _ W3 ⟨rfl, B⟩; have OW2 := Lib.hid (OW1.out.on B); have K4 := Lib.hid (K3.out.below (B.mono B1.size)); replace r0 := rangeAt_below r0 hbw B; replace B1 := bon B1 B; clear B))
            have KC := K4.out.cut hq1 hkc
            simp only [Option.map_some, add_plain'] at KC
            go_roundw
            case rel => exact ⟨k - q, c3 - q, c6, n6, f', _, A6, _, o, rfl, rfl, KC, by omega, by omega, HKG2.out, OW2.out, by omega, B1⟩
            case measure => simp only [lenV]; omega

end Go.Proofs.Ytepammildggnmaa
