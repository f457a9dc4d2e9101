/- What Hash of the reference of images returns. -/
import Derived.Test.YtcjlgfadjedgbaaIR
import Derived.Test.YtcjlgfadjedgbaaC8
namespace Go.Proofs.Ytcjlgfadjedgbaa
open Go.RowKit Go.Sort

def Im.hash (m : Im) : Int := if m.ok then hashL (((encI m.f ++ encI m.w) ++ encI m.h) ++ m.l) else 0

set_option maxRecDepth 100000 in
set_option maxHeartbeats 600000 in
theorem rihash_b (f wd ht : Int) (A : Option Addr) (n c : Nat) (l : List Int) (w : World) (R : Rd w w.heap.size .u8 A n l) :
    Calls Try.prog 55 #[.agg #[.int .i64 f, .int .i64 wd, .int .i64 ht, .slice A n c]] w fun e w' => e = .returned (.int .u64 (Im.mk f wd ht l).hash) ∧ Below w.heap.size w w' := by
  obtain ⟨a0, a1, a2, a3, BB⟩ := box4 w (.int .i64 f) (.int .i64 wd) (.int .i64 ht) (.slice A n c) 25
  have hv := fun W => rivalid_b f wd ht A n c l W R.len
  by_cases hok : (Im.mk f wd ht l).ok
  · rw [show (Im.mk f wd ht l).hash = hashL (((encI f ++ encI wd) ++ encI ht) ++ l) from if_pos hok]
    rw [decide_eq_true hok] at hv
    have hl := (Im.mk f wd ht l).len_le hok
    have hl' : l.length ≤ 32768 := hl
    have hln := R.len
    obtain ⟨hz, hw, hh, _⟩ := hok
    simp only at hz hw hh
    have hf : 1 ≤ f ∧ f ≤ 6 := by
      rcases fmt_cases f with h | h | h | h | h | h | h
      all_goals first | omega | exact absurd (nsz_none h) hz
    have e1 := encI_len f (by omega) (by omega)
    have e2 := encI_len wd (by omega) (by omega)
    have e3 := encI_len ht (by omega) (by omega)
    have p1 := fun W => rappendInt_b none 0 0 [] f W (Rd.nil _ _ _ _) (by omega) (by omega) (by simp only [List.length_nil]; omega)
    have p2 := fun A1 n1 c1 W R1 => rappendInt_b A1 n1 c1 (encI f) wd W R1 (by omega) (by omega) (by omega)
    have p3 := fun A1 n1 c1 W R1 => rappendInt_b A1 n1 c1 (encI f ++ encI wd) ht W R1 (by omega) (by omega) (by rw [List.length_append]; omega)
    have P1 := Lib.hid p1
    have P2 := Lib.hid p2
    have P3 := Lib.hid p3
    clear p1 p2 p3
    have HE : Hid ((encI f).length ≤ 10 ∧ (encI wd).length ≤ 10 ∧ (encI ht).length ≤ 10) := Lib.hid ⟨e1, e2, e3⟩
    have HV := Lib.hid hv
    have HR := Lib.hid R
    clear hv e1 e2 e3 hz hl R
    go_enter Try.func55, Try.ntmps55
    go_wp2_with (first
      | (go_at_call 20; refine (HV.out _).mono ?_; rintro _ W0 ⟨rfl, B⟩; (replace BB := bon BB B; replace a0 := cell_below B a0; replace a1 := cell_below B a1; replace a2 := cell_below B a2; replace a3 := cell_below B a3); clear B)
      | (go_at_call 82; (with_reducible refine (P1.out _).mono ?_); rintro _ W1 ⟨A1, n1, c1, rfl, own1, B⟩; (replace BB := bon BB B; replace a0 := cell_below B a0; replace a1 := cell_below B a1; replace a2 := cell_below B a2; replace a3 := cell_below B a3); clear B; rw [List.nil_append] at own1; have HO1 := Lib.hid own1; clear own1)
      | (go_at_call 82; (with_reducible refine (P2.out A1 n1 c1 _ HO1.out.rd).mono ?_); rintro _ W2 ⟨A2, n2, c2, rfl, own2, B⟩; (replace BB := bon BB B; replace a0 := cell_below B a0; replace a1 := cell_below B a1; replace a2 := cell_below B a2; replace a3 := cell_below B a3); clear B; have HO2 := Lib.hid own2; have HZ := BB.size; clear own2 HO1)
      | (go_at_call 82; (with_reducible refine (P3.out A2 n2 c2 _ HO2.out.rd).mono ?_); rintro _ W3 ⟨A3, n3, c3, rfl, own3, B⟩; (replace BB := bon BB B; replace a0 := cell_below B a0; replace a1 := cell_below B a1; replace a2 := cell_below B a2; replace a3 := cell_below B a3); clear B; have HN3 : n3 ≤ 30 := (by have := HE.out; have := own3.len; rw [List.length_append, List.length_append] at this; omega); have HO3 := Lib.hid (own3.weak (base' := w.heap.size) HZ); clear own3 HO2)
      | (at_builtin; refine wpList_app _ rfl _ _ _ rfl eB HO3.out rfl (HR.out.below BB) rfl (by simp only [maxLen]; omega) (by omega) ?_; intro A4 n4 c4 W4 own4 B; replace BB := BB.trans B; clear B; have HN4 : n4 ≤ 40000 := (by have := HE.out; have := own4.len; rw [List.length_append, List.length_append, List.length_append] at this; omega); have HO4 := Lib.hid own4; clear own4 HO3 a0 a1 a2 a3)
      | (go_at_call 83; refine (rhash_b A4 n4 c4 _ _ HO4.out.rd (by omega)).mono ?_; rintro _ W5 ⟨rfl, B⟩; replace BB := bon BB B))
    go_ret
    exact ⟨congrArg (fun t => Ending.returned (.int .u64 (hashL t))) (show encI f ++ (encI wd ++ (encI ht ++ l)) = ((encI f ++ encI wd) ++ encI ht) ++ l by simp only [List.append_assoc]), BB⟩
  · rw [show (Im.mk f wd ht l).hash = 0 from if_neg hok]
    rw [decide_eq_false hok] at hv
    have HV := Lib.hid hv
    clear hv hok R
    go_enter Try.func55, Try.ntmps55
    go_wp2_with (first | (go_at_call 20; refine (HV.out _).mono ?_; rintro _ _ ⟨rfl, B⟩; replace BB := bon BB B; replace a0 := cell_below B a0; replace a1 := cell_below B a1; replace a2 := cell_below B a2; replace a3 := cell_below B a3))
    go_ret
    exact ⟨rfl, BB⟩

end Go.Proofs.Ytcjlgfadjedgbaa

/- What Fill of the reference of images returns. -/
namespace Go.Proofs.Ytcjlgfadjedgbaa
open Go.RowKit Go.Sort

/-- A list as often as k says. -/
def rept (b : List Int) : Nat → List Int
  | 0 => []
  | k + 1 => rept b k ++ b

theorem rept_len (b : List Int) (k : Nat) : (rept b k).length = k * b.length := by
  induction k with
  | zero => simp [rept]
  | succ k ih => rw [rept, List.length_append, ih, Nat.add_mul, Nat.one_mul]

def Im.fill (m : Im) (x0 x1 x2 x3 : Int) : Im := if m.ok then { m with l := rept (enc m.f x0 x1 x2 x3) (m.w * m.h).toNat } else m

set_option maxRecDepth 100000 in
set_option maxHeartbeats 600000 in
theorem rifill_b (f wd ht : Int) (A : Option Addr) (n c : Nat) (l : List Int) (x0 x1 x2 x3 : Int) (w : World) (R : Rd w w.heap.size .u8 A n l) (hn : n ≤ 140737488351232) :
    Calls Try.prog 33 #[.agg #[.int .i64 f, .int .i64 wd, .int .i64 ht, .slice A n c], .agg #[.int .i64 x0, .int .i64 x1, .int .i64 x2, .int .i64 x3]] w (GivesIO w 5 ((Im.mk f wd ht l).fill x0 x1 x2 x3)) := by
  have D0 := IBox.made w f wd ht A n c 25
  have B0 := box_below w #[.int .i64 f, .int .i64 wd, .int .i64 ht, .slice A n c] 25
  have z1 : (w.alloc (.cells #[.int .i64 f, .int .i64 wd, .int .i64 ht, .slice A n c] 25)).heap.size = w.heap.size + 1 := by simp
  have DV := VBox.made (w.alloc (.cells #[.int .i64 f, .int .i64 wd, .int .i64 ht, .slice A n c] 25)) x0 x1 x2 x3 44
  have B1 := box_below (w.alloc (.cells #[.int .i64 f, .int .i64 wd, .int .i64 ht, .slice A n c] 25)) #[.int .i64 x0, .int .i64 x1, .int .i64 x2, .int .i64 x3] 44
  have z2 : ((w.alloc (.cells #[.int .i64 f, .int .i64 wd, .int .i64 ht, .slice A n c] 25)).alloc (.cells #[.int .i64 x0, .int .i64 x1, .int .i64 x2, .int .i64 x3] 44)).heap.size = w.heap.size + 2 := by simp
  have D2 := IBox.made ((w.alloc (.cells #[.int .i64 f, .int .i64 wd, .int .i64 ht, .slice A n c] 25)).alloc (.cells #[.int .i64 x0, .int .i64 x1, .int .i64 x2, .int .i64 x3] 44)) 0 0 0 none 0 0 25
  have B2 := box_below ((w.alloc (.cells #[.int .i64 f, .int .i64 wd, .int .i64 ht, .slice A n c] 25)).alloc (.cells #[.int .i64 x0, .int .i64 x1, .int .i64 x2, .int .i64 x3] 44)) #[.int .i64 0, .int .i64 0, .int .i64 0, .slice none 0 0] 25
  replace D0 := (D0.on B1).on B2
  obtain ⟨⟨v0, v1, v2, v3⟩, _⟩ := DV.on B2
  have BB := bon (bon B0 B1) B2
  rw [z1] at v0 v1 v2 v3
  rw [z2] at D2
  clear DV B0 B1 B2 z1 z2
  have hsz : (((w.alloc (.cells #[.int .i64 f, .int .i64 wd, .int .i64 ht, .slice A n c] 25)).alloc (.cells #[.int .i64 x0, .int .i64 x1, .int .i64 x2, .int .i64 x3] 44)).alloc (.cells #[.int .i64 0, .int .i64 0, .int .i64 0, .slice none 0 0] 25)).heap.size = w.heap.size + 3 := by simp
  have hv := fun W => rivalid_b f wd ht A n c l W R.len
  by_cases hok : (Im.mk f wd ht l).ok
  · rw [show (Im.mk f wd ht l).fill x0 x1 x2 x3 = { (Im.mk f wd ht l) with l := rept (enc f x0 x1 x2 x3) (wd * ht).toNat } from if_pos hok]
    rw [decide_eq_true hok] at hv
    obtain ⟨hz, hw, hh, -⟩ := hok
    simp only at hz hw hh
    have h1 := mul_bds (show 0 ≤ wd by omega) hw.2 (show 0 ≤ ht by omega) hh.2
    have ce := fun W => rencode_b f x0 x1 x2 x3 W
    have he := enc_len f x0 x1 x2 x3
    have h8 := nsz_le f
    obtain ⟨b, hb⟩ : ∃ b, enc f x0 x1 x2 x3 = b := ⟨_, rfl⟩
    rw [hb] at ce he ⊢
    obtain ⟨N, hN⟩ : ∃ N : Nat, wd * ht = N := ⟨(wd * ht).toNat, by omega⟩
    have hb8 : b.length ≤ 8 := by omega
    have hN4 : N ≤ 4096 := by omega
    have g1 : IntKind.i64.wrap (wd * ht) = N := by rw [hN]; exact IntWalk.i64_in _ (by omega)
    rw [hN, Int.toNat_natCast]
    have HV := Lib.hid hv
    have CE := Lib.hid ce
    clear hv ce hb hN h1 he h8 hz R
    go_enter Try.func33, Try.ntmps33
    go_wp2_with (first
      | (refine wpList_iload rfl _ _ rfl imgT D0.1 rfl ?_)
      | (go_at_call 20; (with_reducible refine (HV.out _).mono ?_); rintro _ W0 ⟨rfl, B⟩; replace D0 := D0.on B; replace D2 := D2.on B; have HS := B.size; rw [hsz] at HS; (replace BB := bon BB B; replace v0 := cell_below B v0; replace v1 := cell_below B v1; replace v2 := cell_below B v2; replace v3 := cell_below B v3); clear B; have a0 := D0.1.1)
      | (go_at_call 41; (with_reducible refine (CE.out _).mono ?_); rintro _ V1 ⟨A1, n1, c1, rfl, hc1, R1, B⟩; clear a0; replace D0 := D0.on B; replace D2 := D2.on B; have HS1 := B.size; replace BB := bon BB B; clear B))
    obtain ⟨D, hD⟩ : ∃ D, V1.heap.size = D := ⟨_, rfl⟩
    have hDs : w.heap.size + 3 ≤ D := by omega
    have own0 := Own.nil V1 5 .u8
    rw [hD] at own0 R1
    have hl1 := R1.len
    have HR1 := Lib.hid R1
    have HD0 := Lib.hid D0
    have HD2 := Lib.hid D2
    clear HS HS1 hsz v0 v1 v2 v3 R1 D0 D2 hD
    go_loopw [6, 7] (fun t i wr => ∃ (k m cap : Nat) (A' : Option Addr), k ≤ N ∧ i = .int .i64 k ∧ t = .slice A' m cap ∧ Own wr D 5 .u8 A' m cap (rept b k) ∧ Below D V1 wr) (fun _ i _ => N - (intOf i).toNat)
    case atStart => exact ⟨0, 0, 0, none, by omega, rfl, rfl, own0, Below.refl _ _⟩
    case round =>
      clear own0
      obtain ⟨k, m, cap, A', hk, rfl, rfl, own, BD⟩ := hrel
      have E0 := HD0.out.below (by omega) BD
      have a1 := E0.1.2.1
      have a2 := E0.1.2.2.1
      by_cases hkn : k < N
      · have hm : m ≤ 32768 := by
          have h := own.len
          rw [rept_len] at h
          have := Nat.mul_le_mul (show k ≤ 4096 by omega) hb8
          omega
        have OWN := Lib.hid own
        clear own E0
        go_wp2_with (at_builtin; refine wpList_app _ rfl _ _ _ rfl eB OWN.out rfl (HR1.out.below BD) rfl (by simp only [maxLen]; omega) (by omega) ?_; intro A2 m2 c2 W2 own2 B2; have HO2 := Lib.hid own2; clear own2)
        go_roundw
        case rel => exact ⟨k + 1, m2, c2, A2, by omega, by go_num, rfl, HO2.out, BD.trans B2⟩
        case measure => simp [intOf]; omega
      · obtain rfl : k = N := by omega
        have E2 := HD2.out.below (by omega) BD
        have i3 := E0.1.2.2.2
        have f3 := E0.2 3
        have OWN := Lib.hid own
        clear own
        go_wp2_with (first
          | (refine wpList_iload rfl _ _ rfl imgT (E0.setData A' m cap).1 rfl ?_)
          | (refine wpList_iset rfl _ _ _ rfl rfl rfl (E2.setOther (b' := w.heap.size) (j := 3) (by omega) (.slice A' m cap)) (by kernel_rfl) ?_; intro V2 B3 D3 hg hz; have HG := Lib.hid hg; clear hg))
        obtain ⟨⟨d0, d1, d2, d3⟩, _⟩ := D3
        exact bodyPost_ret (v := .agg #[.int .i64 f, .int .i64 wd, .int .i64 ht, .slice A' m cap]) (by simp [results, Try.results33, go_sem, *]) rfl ⟨A', m, cap, rfl, ((OWN.out.past1 (by omega) _ _).past HG.out (by omega)).weak (by omega),
          (BB.trans (BD.mono (by omega))).trans (((Below.refl _ _).setCell (by simp) _).trans (B3.mono (by omega)))⟩
  · rw [show (Im.mk f wd ht l).fill x0 x1 x2 x3 = Im.mk f wd ht l from if_neg hok]
    rw [decide_eq_false hok] at hv
    have HV := Lib.hid hv
    have HR := Lib.hid R
    have CC := Lib.hid (fun W R => riclone_b f wd ht A n c l W R hn)
    clear hv hok R
    go_enter Try.func33, Try.ntmps33
    go_wp2_with (first
      | (refine wpList_iload rfl _ _ rfl imgT D0.1 rfl ?_)
      | (go_at_call 20; (with_reducible refine (HV.out _).mono ?_); rintro _ W0 ⟨rfl, B⟩; replace D0 := D0.on B; replace D2 := D2.on B; have HS := B.size; rw [hsz] at HS; clear hsz; (replace BB := bon BB B; replace v0 := cell_below B v0; replace v1 := cell_below B v1; replace v2 := cell_below B v2; replace v3 := cell_below B v3); clear B)
      | (go_at_call 36; (with_reducible refine (CC.out _ ((HR.out.below BB).more BB.size)).mono ?_); rintro _ V1 ⟨A1, n1, c1, rfl, own1, B⟩; replace D0 := D0.on B; replace D2 := D2.on B; have HO1 := Lib.hid own1; clear own1; (replace BB := bon BB B; replace v0 := cell_below B v0; replace v1 := cell_below B v1; replace v2 := cell_below B v2; replace v3 := cell_below B v3); clear B)
      | (refine wpList_iset rfl _ _ _ rfl rfl rfl D2 (by kernel_rfl) ?_; intro V2 B3 D3 hg hz; have HG := Lib.hid hg; clear hg))
    obtain ⟨⟨d0, d1, d2, d3⟩, _⟩ := D3
    exact bodyPost_ret (v := .agg #[.int .i64 f, .int .i64 wd, .int .i64 ht, .slice A1 n1 c1]) (by simp [results, Try.results33, go_sem, *]) rfl ⟨A1, n1, c1, rfl, (HO1.out.past HG.out (by omega)).weak (by omega), BB.trans (B3.mono (by omega))⟩

end Go.Proofs.Ytcjlgfadjedgbaa

/- What New of the reference of images returns. -/
namespace Go.Proofs.Ytcjlgfadjedgbaa
open Go.RowKit Go.Sort

def imZ : Im := ⟨0, 0, 0, []⟩

def newI (f wd ht : Int) : Im × Int := if nsz f = 0 then (imZ, 14) else if (1 ≤ wd ∧ wd ≤ 64) ∧ (1 ≤ ht ∧ ht ≤ 64) then (⟨f, wd, ht, List.replicate (wd * ht * nsz f).toNat 0⟩, 0) else (imZ, 15)

set_option maxRecDepth 100000 in
set_option maxHeartbeats 600000 in
theorem rinew_b (f wd ht : Int) (w : World) : Calls Try.prog 32 #[.int .i64 f, .int .i64 wd, .int .i64 ht] w (GivesIOE w 5 (newI f wd ht).1 (newI f wd ht).2) := by
  have D2 := IBox.made w 0 0 0 none 0 0 25
  have BB := box_below w #[.int .i64 0, .int .i64 0, .int .i64 0, .slice none 0 0] 25
  have hsz : (w.alloc (.cells #[.int .i64 0, .int .i64 0, .int .i64 0, .slice none 0 0] 25)).heap.size = w.heap.size + 1 := by simp
  have c1 := fun W => iof_same (rvalid_q f W)
  have c2 := fun W => iof_same (rsized_q wd W)
  have c3 := fun W => iof_same (rsized_q ht W)
  have c4 := fun W => iof_same (rsize_q f W)
  unfold sdB at c2 c3
  by_cases hz : nsz f = 0
  · rw [show newI f wd ht = (imZ, 14) from if_pos hz]
    rw [show isf f = false by unfold isf; rw [hz]; rfl] at c1
    have C1 := Lib.hid c1
    clear c1 c2 c3 c4 hz
    go_enter Try.func32, Try.ntmps32
    go_wp2_with (first
      | (go_at_call 46; (with_reducible refine (C1.out _).mono ?_); rintro _ W0 ⟨rfl, B⟩; replace D2 := D2.on B; replace BB := bon BB B; clear B)
      | (refine wpList_iset rfl _ _ _ rfl rfl rfl D2 (by kernel_rfl) ?_; intro V2 B3 D3 hg hz; have HG := Lib.hid hg; clear hg))
    obtain ⟨⟨d0, d1, d2, d3⟩, _⟩ := D3
    exact bodyPost_ret (v := .tuple #[.agg #[.int .i64 0, .int .i64 0, .int .i64 0, .slice none 0 0], .int .i64 14]) (by simp [results, Try.results32, go_sem, *]) rfl ⟨none, 0, 0, rfl, (Own.nil _ _ _).weak (by have := BB.size; have := B3.size; omega), BB.trans (B3.mono (by omega))⟩
  · rw [show isf f = true by unfold isf; simp [hz]] at c1
    by_cases hs : (1 ≤ wd ∧ wd ≤ 64) ∧ (1 ≤ ht ∧ ht ≤ 64)
    · rw [show newI f wd ht = (⟨f, wd, ht, List.replicate (wd * ht * nsz f).toNat 0⟩, 0) from (if_neg hz).trans (if_pos hs)]
      obtain ⟨p, q, g1, g2, e1, e2, q0, q1⟩ := side_prod hs.1 hs.2 (nsz_le f)
      rw [decide_eq_true hs.1] at c2
      rw [decide_eq_true hs.2] at c3
      obtain ⟨k, rfl⟩ : ∃ k : Nat, q = k := ⟨q.toNat, by omega⟩
      rw [e1, e2, Int.toNat_natCast]
      have c5 := fun W => rzeros_b k W (by omega)
      obtain ⟨s, hs'⟩ : ∃ s, nsz f = s := ⟨_, rfl⟩
      rw [hs'] at c4 g2
      have C1 := Lib.hid c1
      have C2 := Lib.hid c2
      have C3 := Lib.hid c3
      have C4 := Lib.hid c4
      have C5 := Lib.hid c5
      clear c1 c2 c3 c4 c5 hz hs hs' e1 e2
      go_enter Try.func32, Try.ntmps32
      go_wp2_with (first
        | (go_at_call 46; (with_reducible refine (C1.out _).mono ?_); rintro _ W0 ⟨rfl, B⟩; replace D2 := D2.on B; replace BB := bon BB B; clear B)
        | (go_at_call 47; (first | (with_reducible refine (C2.out _).mono ?_) | (with_reducible refine (C3.out _).mono ?_)); rintro _ _ ⟨rfl, B⟩; replace D2 := D2.on B; replace BB := bon BB B; clear B)
        | (go_at_call 48; (with_reducible refine (C4.out _).mono ?_); rintro _ W4 ⟨rfl, B⟩; have HB := B.size; replace D2 := D2.on B; have HD2 := D2.lt; replace BB := bon BB B; clear B HB)
        | (go_at_call 56; (with_reducible refine (C5.out _).mono ?_); rintro _ W5 ⟨A1, n1, c1, rfl, own1, B⟩; replace D2 := D2.on B; replace BB := bon BB B; clear B; have HO1 := Lib.hid own1; clear own1)
        | (refine wpList_iset rfl _ _ _ rfl rfl rfl D2 (by kernel_rfl) ?_; intro V2 B3 D3 hg hz; have HG := Lib.hid hg; clear hg))
      obtain ⟨⟨d0, d1, d2, d3⟩, _⟩ := D3
      exact bodyPost_ret (v := .tuple #[.agg #[.int .i64 f, .int .i64 wd, .int .i64 ht, .slice A1 n1 c1], .int .i64 0]) (by simp [results, Try.results32, go_sem, *]) rfl ⟨A1, n1, c1, rfl, (HO1.out.past HG.out HD2).weak (by omega), BB.trans (B3.mono (by omega))⟩
    · rw [show newI f wd ht = (imZ, 15) from (if_neg hz).trans (if_neg hs)]
      have C1 := Lib.hid c1
      by_cases hw : 1 ≤ wd ∧ wd ≤ 64
      · rw [decide_eq_true hw] at c2
        rw [decide_eq_false (fun h => hs ⟨hw, h⟩)] at c3
        have C2 := Lib.hid c2
        have C3 := Lib.hid c3
        clear c1 c2 c3 c4 hz hs hw
        go_enter Try.func32, Try.ntmps32
        go_wp2_with (first
          | (go_at_call 46; (with_reducible refine (C1.out _).mono ?_); rintro _ W0 ⟨rfl, B⟩; replace D2 := D2.on B; replace BB := bon BB B; clear B)
          | (go_at_call 47; (first | (with_reducible refine (C2.out _).mono ?_) | (with_reducible refine (C3.out _).mono ?_)); rintro _ _ ⟨rfl, B⟩; replace D2 := D2.on B; replace BB := bon BB B; clear B)
          | (refine wpList_iset rfl _ _ _ rfl rfl rfl D2 (by kernel_rfl) ?_; intro V2 B3 D3 hg hz; have HG := Lib.hid hg; clear hg))
        obtain ⟨⟨d0, d1, d2, d3⟩, _⟩ := D3
        exact bodyPost_ret (v := .tuple #[.agg #[.int .i64 0, .int .i64 0, .int .i64 0, .slice none 0 0], .int .i64 15]) (by simp [results, Try.results32, go_sem, *]) rfl ⟨none, 0, 0, rfl, (Own.nil _ _ _).weak (by have := BB.size; have := B3.size; omega), BB.trans (B3.mono (by omega))⟩
      · rw [decide_eq_false hw] at c2
        have C2 := Lib.hid c2
        clear c1 c2 c3 c4 hz hs hw
        go_enter Try.func32, Try.ntmps32
        go_wp2_with (first
          | (go_at_call 46; (with_reducible refine (C1.out _).mono ?_); rintro _ W0 ⟨rfl, B⟩; replace D2 := D2.on B; replace BB := bon BB B; clear B)
          | (go_at_call 47; (with_reducible refine (C2.out _).mono ?_); rintro _ _ ⟨rfl, B⟩; replace D2 := D2.on B; replace BB := bon BB B; clear B)
          | (refine wpList_iset rfl _ _ _ rfl rfl rfl D2 (by kernel_rfl) ?_; intro V2 B3 D3 hg hz; have HG := Lib.hid hg; clear hg))
        obtain ⟨⟨d0, d1, d2, d3⟩, _⟩ := D3
        exact bodyPost_ret (v := .tuple #[.agg #[.int .i64 0, .int .i64 0, .int .i64 0, .slice none 0 0], .int .i64 15]) (by simp [results, Try.results32, go_sem, *]) rfl ⟨none, 0, 0, rfl, (Own.nil _ _ _).weak (by have := BB.size; have := B3.size; omega), BB.trans (B3.mono (by omega))⟩

end Go.Proofs.Ytcjlgfadjedgbaa

/- What Set of the reference of images returns. -/
namespace Go.Proofs.Ytcjlgfadjedgbaa
open Go.RowKit Go.Sort

section
variable {P : Program} {C : World → Prop}
/-- An operation with one value in every world of the class, in a region that draws its order. -/
theorem quiet_val {K : Act → Prop} {o : Oper} {a : Act} (v : Value) (hs : ∀ W, C W → (execOp a.eval o).run P W = .ok (.value v) W) (hk : K (a.put o.dst v)) : o.quiet P a C K :=
  ⟨v, fun W hW => by
    unfold Oper.quietAt
    rw [hs W hW]
    exact ⟨rfl, rfl⟩, hk⟩
end

end Go.Proofs.Ytcjlgfadjedgbaa
