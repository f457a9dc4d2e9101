/- The chapter's example; the walks of CodecHashes, CodecReadsInt, CodecLittle. -/
import Derived.Test.YtaimkplcnkbjlaaC6
import Derived.Test.YtaimkplcnkbjlaaC8
namespace Go.Proofs.Ytaimkplcnkbjlaa
open Go.RowKit Go.Sort

theorem encI_m1 : encI (-1) = [1] := by
  unfold encI
  rw [show (zig (-1)).toNat = 1 from rfl, vari_lt (by omega)]
  rfl
theorem encI_64 : encI 64 = [128, 1] := by
  unfold encI
  rw [show (zig 64).toNat = 128 from rfl, vari_ge (by omega), vari_lt (by omega)]
  rfl

/-- A literal of bytes that has just been laid. -/
theorem rd_lit (W : World) (cs : Array Value) (e : TypeId) (l : List Int) (n : Nat) (hl : l.length = n) (hr : ∀ x ∈ l, (0 : Int) ≤ x ∧ x ≤ 255) (hc : ∀ (j : Nat) (x : Int), l[j]? = some x → cs[j]? = some (Value.int .u8 x)) :
    Rd (W.alloc (.cells cs e)) (W.alloc (.cells cs e)).heap.size .u8 (some ⟨W.heap.size, 0, none⟩) n l :=
  ⟨hl, fun x hx => by rw [u8_min, u8_max]; exact hr x hx, fun _ => ⟨W.heap.size, 0, rfl, by simp, fun j x hx => by rw [Nat.zero_add]; exact box_cell W cs e j _ (hc j x hx)⟩⟩

theorem little_ex (A : Option Addr) (c : Nat) (w : World) (R : Rd w w.heap.size .u8 A 2 [1, 2]) :
    Calls Try.prog 32 #[.slice A 2 c, .int .i64 0, .int .i64 2] w fun e w' => e = .returned (.int .i64 513) ∧ Below w.heap.size w w' :=
  little_yes A 2 c 0 2 [1, 2] w R (by omega) (by omega) (by omega) (by omega)

set_option maxRecDepth 100000 in
theorem example_b (w : World) : Calls Try.prog 20 #[] w fun e w' => e = .returned (.bool true) ∧ Below w.heap.size w w' := by
  have BB : Below w.heap.size w w := Below.refl _ _
  have h1 : Hid (([] : List Int).length + (encI (-1)).length ≤ 140737488355328) := Lib.hid (by rw [encI_m1]; simp)
  have h2 : Hid (([] : List Int).length + (encI 64).length ≤ 140737488355328) := Lib.hid (by rw [encI_64]; simp)
  go_enter Try.func20, Try.ntmps20
  go_wp2_with (first
    | (go_at_call 12; refine (appendInt_b none 0 0 [] (-1) _ (Rd.nil _ _ _ _) (by omega) (by omega) h1.out).mono ?_; rintro _ W1 ⟨A1, n1, c1, rfl, _, R1, B⟩; rw [encI_m1] at R1; replace BB := bon BB B; clear B)
    | (go_at_call 12; refine (appendInt_b none 0 0 [] 64 _ (Rd.nil _ _ _ _) (by omega) (by omega) h2.out).mono ?_; rintro _ W2 ⟨A1, n1, c1, rfl, _, R2, B⟩; rw [encI_64] at R2; replace BB := bon BB B; clear B)
    | (go_at_call 11; refine (same_b _ _ _ _ _ _ _ _ _ _ (R1.below ((Below.refl _ _).alloc (Nat.le_refl _) _)) (rd_lit W1 _ _ [1] _ rfl (by simp) (by intro j x hx; match j, hx with | 0, hx => simp at hx; subst hx; rfl)) (by simp) (by simp) (by have := R1.len; simp at this; omega)).mono ?_; rintro _ W3 ⟨rfl, B⟩; replace BB := bon (bon BB (box_below _ _ _)) B; clear B R1)
    | (go_at_call 11; refine (same_b _ _ _ _ _ _ _ _ _ _ (R2.below ((Below.refl _ _).alloc (Nat.le_refl _) _)) (rd_lit W2 _ _ [128, 1] _ rfl (by simp) (by intro j x hx; match j, hx with | 0, hx => simp at hx; subst hx; rfl | 1, hx => simp at hx; subst hx; rfl)) (by simp) (by simp) (by have := R2.len; simp at this; omega)).mono ?_; rintro _ W4 ⟨rfl, B⟩; replace BB := bon (bon BB (box_below _ _ _)) B; clear B R2)
    | (go_at_call 32; refine (little_ex _ _ _ (rd_lit W4 _ _ [1, 2] _ rfl (by simp) (by intro j x hx; match j, hx with | 0, hx => simp at hx; subst hx; rfl | 1, hx => simp at hx; subst hx; rfl))).mono ?_; rintro _ W5 ⟨rfl, B⟩; replace BB := bon (bon BB (box_below _ _ _)) B; clear B))
  go_ret
  exact ⟨rfl, BB⟩

set_option maxRecDepth 100000 in
theorem hashes_walk (A : Option Addr) (n c : Nat) (l : List Int) (w : World) (R : Rd w w.heap.size .u8 A n l) (hn : n ≤ 9223372036854775807) :
    Calls Try.prog 6 #[.slice A n c] w fun e w' => e = .returned (.bool true) ∧ Below w.heap.size w w' := by
  have BB : Below w.heap.size w w := Below.refl _ _
  obtain ⟨h, hh⟩ : ∃ h, hashL l = h := ⟨_, rfl⟩
  have c1 := fun W R => hash_b A n c l W R hn
  have c2 := fun W R => rhash_b A n c l W R hn
  rw [hh] at c1 c2
  have C1 := Lib.hid c1
  have C2 := Lib.hid c2
  clear c1 c2 hh
  go_enter Try.func6, Try.ntmps6
  go_wp2_with (first
    | (go_at_call 30; refine (C1.out _ (R.on BB)).mono ?_; rintro _ W1 ⟨rfl, B⟩; replace BB := bon BB B; clear B)
    | (go_at_call 31; refine (C2.out _ (R.on BB)).mono ?_; rintro _ W1 ⟨rfl, B⟩; replace BB := bon BB B; clear B)
    | (go_at_call 20; refine (example_b _).mono ?_; rintro _ W1 ⟨rfl, B⟩; replace BB := bon BB B; clear B))
  go_ret
  exact ⟨rfl, BB⟩

set_option maxRecDepth 100000 in
theorem readsInt_walk (A : Option Addr) (n c : Nat) (l : List Int) (a : Int) (w : World) (R : Rd w w.heap.size .u8 A n l) (hn : n ≤ 9223372036854775807) :
    Calls Try.prog 4 #[.slice A n c, .int .i64 a] w fun e w' => e = .returned (.bool true) ∧ Below w.heap.size w w' := by
  have BB : Below w.heap.size w w := Below.refl _ _
  obtain ⟨v, nx, er, hr⟩ : ∃ v nx er, ri l a = (v, nx, er) := ⟨_, _, _, rfl⟩
  obtain ⟨v2, nx2, er2, hr2⟩ : ∃ v nx er, rb l a = (v, nx, er) := ⟨_, _, _, rfl⟩
  have H1 := Lib.hid hr
  have H2 := Lib.hid hr2
  clear hr hr2
  go_enter Try.func4, Try.ntmps4
  go_wp2_with (first
    | (go_at_call 21; refine (readInt_b _ _ _ _ _ _ _ _ _ (R.on BB) hn H1.out).mono ?_; rintro _ W1 ⟨rfl, B⟩; replace BB := bon BB B; clear B)
    | (go_at_call 22; refine (rreadInt_b _ _ _ _ _ _ _ _ _ (R.on BB) hn H1.out).mono ?_; rintro _ W1 ⟨rfl, B⟩; replace BB := bon BB B; clear B)
    | (go_at_call 23; refine (readBool_b _ _ _ _ _ _ _ _ _ (R.on BB) hn H2.out).mono ?_; rintro _ W1 ⟨rfl, B⟩; replace BB := bon BB B; clear B)
    | (go_at_call 24; refine (rreadBool_b _ _ _ _ _ _ _ _ _ (R.on BB) hn H2.out).mono ?_; rintro _ W1 ⟨rfl, B⟩; replace BB := bon BB B; clear B)
    | (go_at_call 20; refine (example_b _).mono ?_; rintro _ W1 ⟨rfl, B⟩; replace BB := bon BB B; clear B))
  go_ret
  exact ⟨rfl, BB⟩

theorem fits_parts {n : Nat} {a s : Int} (h : fits n a s) : ∃ p m : Nat, a = p ∧ s = m ∧ 1 ≤ m ∧ m ≤ 4 ∧ p + m ≤ n := by
  obtain ⟨h1, h2, h3, h4⟩ := h
  exact ⟨a.toNat, s.toNat, by omega, by omega, by omega, by omega, by omega⟩

set_option maxRecDepth 100000 in
theorem little_walk (A : Option Addr) (n c : Nat) (l : List Int) (a s v : Int) (w : World) (R : Rd w w.heap.size .u8 A n l) (hn : n ≤ 140737488355328) :
    Calls Try.prog 7 #[.slice A n c, .int .i64 a, .int .i64 s, .int .i64 v] w fun e w' => e = .returned (.bool true) ∧ Below w.heap.size w w' := by
  have BB : Below w.heap.size w w := Below.refl _ _
  have hn' : n ≤ 9223372036854775807 := by omega
  have HL := Lib.hid R.len
  by_cases hf : fits n a s
  · obtain ⟨p, m, rfl, rfl, m1, m4, hp⟩ := fits_parts hf
    clear hf
    obtain ⟨x, hx⟩ : ∃ x, litv (part l p m) = x := ⟨_, rfl⟩
    have c1 := fun W R => little_yes A n c p m l W R hn' m1 m4 hp
    have c2 := fun W R => rlittle_yes A n c p m l W R hn' m1 m4 hp
    rw [hx] at c1 c2
    have C1 := Lib.hid c1
    have C2 := Lib.hid c2
    clear c1 c2 hx
    have HP := Lib.hid hp
    clear hp
    go_enter Try.func7, Try.ntmps7
    go_wp2_with (first
      | (go_at_call 32; refine (C1.out _ (R.on BB)).mono ?_; rintro _ W1 ⟨rfl, B⟩; replace BB := bon BB B; clear B)
      | (go_at_call 33; refine (C2.out _ (R.on BB)).mono ?_; rintro _ W1 ⟨rfl, B⟩; replace BB := bon BB B; clear B)
      | (go_at_call 34; refine (putLittle_yes _ _ _ _ _ _ _ _ (R.on BB) hn m1 m4 HP.out).mono ?_; rintro _ W1 ⟨A1, n1, c1, rfl, own1, B⟩; have R1 := own1.rd; have HE := Lib.hid (own1.len.symm.trans (putL_len _ _ _ _)); clear own1; replace BB := bon BB B; clear B)
      | (go_at_call 35; refine (rputLittle_yes _ _ _ _ _ _ _ _ (R.on BB) hn m1 m4 HP.out).mono ?_; rintro _ W2 ⟨A2, n2, c2, rfl, own2, B⟩; have R2 := own2.rd; clear own2; replace R1 := R1.on B; replace BB := bon BB B; clear B)
      | (go_at_call 11; refine (same_b _ _ _ _ _ _ _ _ _ _ R1 R2 (Nat.le_refl _) (Nat.le_refl _) (by have := HE.out; have := HL.out; omega)).mono ?_; rintro _ W3 ⟨rfl, B⟩; replace BB := bon BB B; clear B R1 R2)
      | (go_at_call 20; refine (example_b _).mono ?_; rintro _ W1 ⟨rfl, B⟩; replace BB := bon BB B; clear B))
    go_ret
    exact ⟨rfl, BB⟩
  · have HF := Lib.hid hf
    clear hf
    go_enter Try.func7, Try.ntmps7
    go_wp2_with (first
      | (go_at_call 32; refine (little_no _ _ _ _ _ _ hn' HF.out).mono ?_; rintro _ W1 ⟨rfl, B⟩; replace BB := bon BB B; clear B)
      | (go_at_call 33; refine (rlittle_no _ _ _ _ _ _ hn' HF.out).mono ?_; rintro _ W1 ⟨rfl, B⟩; replace BB := bon BB B; clear B)
      | (go_at_call 34; refine (putLittle_no _ _ _ _ _ _ _ _ (R.on BB) hn HF.out).mono ?_; rintro _ W1 ⟨A1, n1, c1, rfl, own1, B⟩; have R1 := own1.rd; clear own1; replace BB := bon BB B; clear B)
      | (go_at_call 35; refine (rputLittle_no _ _ _ _ _ _ _ _ (R.on BB) hn HF.out).mono ?_; rintro _ W2 ⟨A2, n2, c2, rfl, own2, B⟩; have R2 := own2.rd; clear own2; replace R1 := R1.on B; replace BB := bon BB B; clear B)
      | (go_at_call 11; refine (same_b _ _ _ _ _ _ _ _ _ _ R1 R2 (Nat.le_refl _) (Nat.le_refl _) (by have := R1.len; have := HL.out; omega)).mono ?_; rintro _ W3 ⟨rfl, B⟩; replace BB := bon BB B; clear B R1 R2)
      | (go_at_call 20; refine (example_b _).mono ?_; rintro _ W1 ⟨rfl, B⟩; replace BB := bon BB B; clear B))
    go_ret
    exact ⟨rfl, BB⟩

end Go.Proofs.Ytaimkplcnkbjlaa
