/- What Indices of package fetch and of the reference returns. -/
import Derived.Test.YtfakmeimideoaaaH2
namespace Go.Proofs.Ytfakmeimideoaaa
open Go.RowKit Go.Sort Go.ChangeShapes Go.WideShapes
set_option linter.unusedVariables false

theorem iI64 : (Try.prog.info? 3).map (fun i => (i.zero, i.size, i.bytes)) = some (some (.int .i64 0), 1, 8) := by kernel_rfl
theorem elInts : Elem Try.prog 30 3 .i64 8 := elem_of Try.underlying30 (by kernel_rfl)

/-- What Indices returns. -/
def ixv (l : List Int) (t f m : Int) : List Int := if isz t < 0 then [] else ixs l t (clampv f 0 65536) (clampv m 0 1024).toNat

theorem isz_neg {t : Int} : isz t < 0 ↔ (t ≠ 1 ∧ t ≠ 2 ∧ t ≠ 3 ∧ t ≠ 4) := by
  rcases it_cases t with rfl | rfl | rfl | rfl | h
  · simp [isz]
  · simp [isz]
  · simp [isz]
  · simp [isz]
  · rw [isz_none h]; exact ⟨fun _ => h, fun _ => by decide⟩

theorem ixs_rng {l : List Int} (t f : Int) (h : ∀ x ∈ l, (0 : Int) ≤ x ∧ x ≤ 255) (h0 : 0 ≤ f) (h1 : f ≤ 65536) : ∀ k, k ≤ 1024 → ∀ x ∈ ixs l t f k, -9223372036854775808 ≤ x ∧ x ≤ 9223372036854775807
  | 0, _ => by simp [ixs]
  | k + 1, hk => by
    intro x hx
    rw [ixs] at hx
    rcases List.mem_append.1 hx with hx | hx
    · exact ixs_rng t f h h0 h1 k (by omega) x hx
    · simp at hx
      subst hx
      exact idx_rng t h (by omega)

set_option maxRecDepth 100000 in
theorem indices_no (A : Option Addr) (n c : Nat) (t f m : Int) (w : World) (h : isz t < 0) :
    Calls Try.prog 15 #[.slice A n c, .int .i64 t, .int .i64 f, .int .i64 m] w (GivesRd w .i64 []) := by
  have C0 := Lib.hid (fun W => isize_q t W)
  rw [isz_none (isz_neg.1 h)] at C0
  clear h
  go_enter Try.func15, Try.ntmps15
  go_wp2_with (go_at_call 17; (with_reducible refine (C0.out _).mono ?_); rintro _ _ ⟨rfl, rfl⟩)
  go_ret
  exact ⟨none, 0, 0, rfl, Nat.le_refl _, Rd.nil _ _ _ _, Below.refl _ _⟩

set_option maxRecDepth 100000 in
theorem rindices_no (A : Option Addr) (n c : Nat) (t f m : Int) (w : World) (h : isz t < 0) :
    Calls Try.prog 16 #[.slice A n c, .int .i64 t, .int .i64 f, .int .i64 m] w (GivesRd w .i64 []) := by
  have C0 := Lib.hid (fun W => risize_q t W)
  rw [isz_none (isz_neg.1 h)] at C0
  clear h
  go_enter Try.func16, Try.ntmps16
  go_wp2_with (go_at_call 18; (with_reducible refine (C0.out _).mono ?_); rintro _ _ ⟨rfl, rfl⟩)
  go_ret
  exact ⟨none, 0, 0, rfl, Nat.le_refl _, Rd.nil _ _ _ _, Below.refl _ _⟩

theorem isz_ok {t : Int} (h : ¬ isz t < 0) : 0 ≤ isz t := by omega

/-- Indices, written so far. -/
theorem fill_ix {l : List Int} {t f : Int} {k m : Nat} (h : k < m) : (ixs l t f k ++ List.replicate (m - k) 0).set k (idx l t (f + k)) = ixs l t f (k + 1) ++ List.replicate (m - (k + 1)) 0 := by
  obtain ⟨r, rfl⟩ : ∃ r, m = k + 1 + r := ⟨m - (k + 1), by omega⟩
  rw [show k + 1 + r - k = r + 1 by omega, show k + 1 + r - (k + 1) = r by omega, fill_set _ _ _ _ _ (ixs_len _ _ _ _)]
  rfl

set_option maxRecDepth 100000 in
set_option maxHeartbeats 1000000 in
theorem indices_yes (A : Option Addr) (n c : Nat) (l : List Int) (t f m : Int) (w : World) (R : Rd w w.heap.size .u8 A n l) (hn : n ≤ 9223372036854775807) (h : ¬ isz t < 0) :
    Calls Try.prog 15 #[.slice A n c, .int .i64 t, .int .i64 f, .int .i64 m] w (GivesRd w .i64 (ixs l t (clampv f 0 65536) (clampv m 0 1024).toNat)) := by
  have BB : Below w.heap.size w w := Below.refl _ _
  have C0 := Lib.hid (fun W => isize_q t W)
  have CF := Lib.hid (fun W => blim_q f 65536 W (by decide))
  have CM := Lib.hid (fun W => blim_q m 1024 W (by decide))
  have CI := Lib.hid (fun i W R => index_b A n c l t i W R hn)
  have bf : 0 ≤ clampv f 0 65536 ∧ clampv f 0 65536 ≤ 65536 := by unfold clampv; split <;> (try split) <;> omega
  have bm : 0 ≤ clampv m 0 1024 ∧ clampv m 0 1024 ≤ 1024 := by unfold clampv; split <;> (try split) <;> omega
  obtain ⟨F, hF⟩ : ∃ F, clampv f 0 65536 = F := ⟨_, rfl⟩
  obtain ⟨M, hM⟩ : ∃ M : Nat, clampv m 0 1024 = M := ⟨(clampv m 0 1024).toNat, by omega⟩
  rw [hM] at CM bm ⊢
  rw [hF] at CF bf ⊢
  rw [Int.toNat_natCast]
  have hs := isz_ok h
  have HI := Lib.hid (ixs_rng t F (rd_rng255 R) bf.1 bf.2)
  have HX := Lib.hid (fun (k : Nat) (hk : k ≤ 1024) => idx_rng t (i := F + k) (rd_rng255 R) (by omega))
  obtain ⟨f0, f1⟩ := bf
  obtain ⟨_, m1⟩ := bm
  obtain ⟨s, hss⟩ : ∃ s, isz t = s := ⟨_, rfl⟩
  rw [hss] at C0 hs
  have KR := Lib.hid R
  have HE : Hid ((ixs l t F M ++ List.replicate (M - M) 0).map (Value.int .i64) = (ixs l t F M).map (Value.int .i64)) := Lib.hid (by rw [Nat.sub_self]; simp)
  have HF := Lib.hid (fun k hk => fill_ix (l := l) (t := t) (f := F) (k := k) (m := M) hk)
  clear hss h hF hM R
  go_enter Try.func15, Try.ntmps15
  go_wp2_with (first
    | (go_at_call 17; (with_reducible refine (C0.out _).mono ?_); rintro _ _ ⟨rfl, rfl⟩)
    | (go_at_call 30; (with_reducible refine (CF.out _).mono ?_); rintro _ _ ⟨rfl, rfl⟩)
    | (go_at_call 30; (with_reducible refine (CM.out _).mono ?_); rintro _ _ ⟨rfl, rfl⟩)
    | (refine wpList_makeV _ rfl _ _ _ rfl Try.underlying30 iI64 rfl .i64 .i64 M rfl rfl (by omega) (by simp only [maxLen]; omega) w.heap.size (Nat.le_refl _) ?_; intro bd W1 own1 B1 hbd))
  have OW := Lib.hid own1
  clear own1
  go_loopw [21] (fun i wr => ∃ k : Nat, k ≤ M ∧ i = .int .i64 (k : Int) ∧ OwnV wr w.heap.size 3 bd M M ((ixs l t F k ++ List.replicate (M - k) 0).map (Value.int .i64)) ∧ Below w.heap.size w wr) (fun i _ => M - (intOf i).toNat)
  case atStart => exact ⟨0, by omega, rfl, by rw [ixs, List.nil_append, Nat.sub_zero, List.map_replicate]; exact OW.out, B1⟩
  case round =>
    rename World => wr
    clear OW B1 BB
    obtain ⟨k, hk, rfl, own, BB⟩ := hrel
    by_cases hlt : k < M
    · have K1 := (KR.out.below BB).more BB.size
      have hl := own.len
      have hx := HX.out k (by omega)
      have hf := HF.out k hlt
      have CI' := Lib.hid (CI.out (F + k))
      obtain ⟨x, hxx⟩ : ∃ x, idx l t (F + k) = x := ⟨_, rfl⟩
      rw [hxx] at hf hx CI'
      have HFF : Hid (((ixs l t F k ++ List.replicate (M - k) 0).map (Value.int .i64)).set k (.int .i64 x) = (ixs l t F (k + 1) ++ List.replicate (M - (k + 1)) 0).map (Value.int .i64)) := Lib.hid (by rw [← List.map_set, hf])
      have OW := Lib.hid own
      have hlen : Hid (k < ((ixs l t F k ++ List.replicate (M - k) 0).map (Value.int .i64)).length) := Lib.hid (by omega)
      clear hf own hxx hl
      go_wp2_with (go_at_call 9; (with_reducible refine (CI'.out _ K1).mono ?_); rintro _ W2 ⟨rfl, B⟩; replace BB := bon BB B; have own2 := OW.out.on B; obtain ⟨u, cu⟩ : ∃ u, W2.cell? ⟨bd, k, none⟩ = some u := ⟨_, own2.cell (List.getElem?_eq_getElem hlen.out)⟩; have fz := own2.frozen (j := k); have st := Lib.hid (own2.set (j := k) (.int .i64 x)); clear own2 K1 B)
      go_roundw
      case rel => exact ⟨k + 1, by omega, by go_num, by rw [← HFF.out]; exact st.out.1, BB.trans st.out.2⟩
      case measure => simp [intOf]; omega
    · obtain rfl : k = M := by omega
      rw [HE.out] at own
      have OW := Lib.hid own
      clear own
      go_wp2
      go_ret
      have o := OW.out.ints (HI.out k (by omega))
      exact ⟨_, _, _, rfl, Nat.le_refl _, o.rd, BB⟩

def mnv (x y : Int) : Int := if y < x then y else x
def mxv (x y : Int) : Int := if y > x then y else x

set_option maxRecDepth 100000 in
set_option maxHeartbeats 1000000 in
theorem rindices_yes (A : Option Addr) (n c : Nat) (l : List Int) (t f m : Int) (w : World) (R : Rd w w.heap.size .u8 A n l) (hn : n ≤ 9223372036854775807) (h : ¬ isz t < 0) :
    Calls Try.prog 16 #[.slice A n c, .int .i64 t, .int .i64 f, .int .i64 m] w (GivesRd w .i64 (ixs l t (clampv f 0 65536) (clampv m 0 1024).toNat)) := by
  have C0 := Lib.hid (fun W => risize_q t W)
  have CI := Lib.hid (fun i W R => rindex_b A n c l t i W R hn)
  have bf : 0 ≤ clampv f 0 65536 ∧ clampv f 0 65536 ≤ 65536 := by unfold clampv; split <;> (try split) <;> omega
  have bm : 0 ≤ clampv m 0 1024 ∧ clampv m 0 1024 ≤ 1024 := by unfold clampv; split <;> (try split) <;> omega
  have ef : mnv (mxv f 0) 65536 = clampv f 0 65536 := by unfold mnv mxv clampv; split <;> (try split) <;> (try split) <;> (try split) <;> omega
  have em : mnv (mxv m 0) 1024 = clampv m 0 1024 := by unfold mnv mxv clampv; split <;> (try split) <;> (try split) <;> (try split) <;> omega
  have hmax : ∀ (ts : Array TypeId) (t : TypeId) (x y : Int) (w : World), (Builtin.max_ ts t #[.int .i64 x, .int .i64 y]).run Try.prog w = .ok (.int .i64 (mxv x y)) w := fun ts t x y w => by simp [Builtin.max_, Builtin.max2, mxv]
  have hmin : ∀ (ts : Array TypeId) (t : TypeId) (x y : Int) (w : World), (Builtin.min_ ts t #[.int .i64 x, .int .i64 y]).run Try.prog w = .ok (.int .i64 (mnv x y)) w := fun ts t x y w => by simp [Builtin.min_, Builtin.min2, mnv]
  obtain ⟨F, hF⟩ : ∃ F, clampv f 0 65536 = F := ⟨_, rfl⟩
  obtain ⟨M, hM⟩ : ∃ M : Nat, clampv m 0 1024 = M := ⟨(clampv m 0 1024).toNat, by omega⟩
  rw [hM] at em bm ⊢
  rw [hF] at ef bf ⊢
  rw [Int.toNat_natCast]
  have hs := isz_ok h
  have HI := Lib.hid (ixs_rng t F (rd_rng255 R) bf.1 bf.2)
  have HX := Lib.hid (fun (k : Nat) (hk : k ≤ 1024) => idx_rng t (i := F + k) (rd_rng255 R) (by omega))
  obtain ⟨f0, f1⟩ := bf
  obtain ⟨_, m1⟩ := bm
  obtain ⟨s, hss⟩ : ∃ s, isz t = s := ⟨_, rfl⟩
  rw [hss] at C0 hs
  have KR := Lib.hid R
  have O0 := Own.made w 3 .i64
  have B0 := box_below w #[] 3
  have OW := Lib.hid O0
  clear hss h hF hM R O0
  go_enter Try.func16, Try.ntmps16
  go_wp2_with (go_at_call 18; (with_reducible refine (C0.out _).mono ?_); rintro _ _ ⟨rfl, rfl⟩)
  go_loopw [9, 10] (fun v i wr => ∃ (k c2 : Nat) (A2 : Option Addr), k ≤ M ∧ i = .int .i64 (k : Int) ∧ v = .slice A2 k c2 ∧ Own wr w.heap.size 3 .i64 A2 k c2 (ixs l t F k) ∧ Below w.heap.size w wr) (fun _ i _ => M - (intOf i).toNat)
  case atStart => exact ⟨0, 0, _, by omega, rfl, rfl, OW.out, B0⟩
  case round =>
    rename World => wr
    clear OW B0 ef em hmax hmin
    obtain ⟨k, c2, A2, hk, rfl, rfl, own, BB⟩ := hrel
    by_cases hlt : k < M
    · have K1 := (KR.out.below BB).more BB.size
      have hx := HX.out k (by omega)
      have CI' := Lib.hid (CI.out (F + k))
      have HFF : Hid (ixs l t F (k + 1) = ixs l t F k ++ [idx l t (F + k)]) := Lib.hid rfl
      obtain ⟨x, hxx⟩ : ∃ x, idx l t (F + k) = x := ⟨_, rfl⟩
      rw [hxx] at hx CI' HFF
      have OW := Lib.hid own
      have HX' := Lib.hid hx
      clear own hxx hx
      go_wp2_with (first
        | (go_at_call 10; (with_reducible refine (CI'.out _ K1).mono ?_); rintro _ W2 ⟨rfl, B⟩; replace BB := bon BB B; replace OW := Lib.hid (OW.out.on B); clear K1 B)
        | (refine wpList_app1 _ rfl _ _ _ rfl elInts OW.out rfl HX'.out rfl (by simp only [maxLen]; omega) (by omega) ?_; intro A3 n3 c3 W3 own3 B3; replace BB := BB.trans B3; have OW3 := Lib.hid own3; obtain rfl : n3 = k + 1 := (by have h9 := own3.len; rw [List.length_append, ixs_len] at h9; exact h9.symm); clear own3))
      go_roundw
      case rel => exact ⟨k + 1, c3, A3, by omega, by go_num, rfl, by rw [HFF.out]; exact OW3.out, BB⟩
      case measure => simp [intOf]; omega
    · obtain rfl : k = M := by omega
      have OW := Lib.hid own
      clear own
      go_wp2
      go_ret
      exact ⟨_, _, _, rfl, OW.out.room, OW.out.rd, BB⟩

theorem indices_b (A : Option Addr) (n c : Nat) (l : List Int) (t f m : Int) (w : World) (R : Rd w w.heap.size .u8 A n l) (hn : n ≤ 9223372036854775807) :
    Calls Try.prog 15 #[.slice A n c, .int .i64 t, .int .i64 f, .int .i64 m] w (GivesRd w .i64 (ixv l t f m)) := by
  unfold ixv
  split
  · rename_i h; exact indices_no A n c t f m w h
  · rename_i h; exact indices_yes A n c l t f m w R hn h

theorem rindices_b (A : Option Addr) (n c : Nat) (l : List Int) (t f m : Int) (w : World) (R : Rd w w.heap.size .u8 A n l) (hn : n ≤ 9223372036854775807) :
    Calls Try.prog 16 #[.slice A n c, .int .i64 t, .int .i64 f, .int .i64 m] w (GivesRd w .i64 (ixv l t f m)) := by
  unfold ixv
  split
  · rename_i h; exact rindices_no A n c t f m w h
  · rename_i h; exact rindices_yes A n c l t f m w R hn h

end Go.Proofs.Ytfakmeimideoaaa
