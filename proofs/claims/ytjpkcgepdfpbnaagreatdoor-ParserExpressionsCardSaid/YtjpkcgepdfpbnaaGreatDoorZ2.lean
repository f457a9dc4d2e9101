/- The words and the signs of both. -/
import Derived.Test.YtjpkcgepdfpbnaaGreatDoorZ1
namespace Go.Proofs.YtjpkcgepdfpbnaaGreatDoor
open Go.RowKit Go.Sort
set_option linter.unusedVariables false

theorem ret_bool {a b : Bool} (h : a = b) : Ending.returned (.bool a) = .returned (.bool b) := by rw [h]

def tyw (l : List UInt8) : Bool := l == [102, 105, 120, 101, 100] || l == [104, 97, 108, 102] || l == [105, 110, 116] || l == [98, 111, 111, 108] || l == [118, 101, 99, 50] || l == [118, 101, 99, 51] || l == [118, 101, 99, 52]

def kw0 (l : List UInt8) : Bool := l == [115, 104, 97, 100, 101, 114] || l == [118, 101, 114, 116, 101, 120] || l == [103, 101, 111, 109, 101, 116, 114, 121] || l == [102, 114, 97, 103, 109, 101, 110, 116] || l == [115, 116, 114, 117, 99, 116] || l == [117, 110, 105, 102, 111, 114, 109] || l == [116, 101, 120, 116, 117, 114, 101] || l == [98, 117, 102, 102, 101, 114] || l == [105, 110] || l == [111, 117, 116] || l == [102, 110] || l == [114, 101, 116, 117, 114, 110] || l == [109, 97, 105, 110] || l == [108, 101, 116] || l == [105, 102] || l == [101, 108, 115, 101] || l == [108, 111, 111, 112] || l == [98, 114, 101, 97, 107] || l == [99, 111, 110, 116, 105, 110, 117, 101] || l == [100, 105, 115, 99, 97, 114, 100] || l == [101, 109, 105, 116] || l == [99, 117, 116] || l == [116, 114, 117, 101] || l == [102, 97, 108, 115, 101]

def sgw (l : List UInt8) : Bool := l == [40] || l == [41] || l == [123] || l == [125] || l == [44] || l == [59] || l == [58] || l == [46] || l == [91] || l == [93] || l == [61] || l == [43] || l == [45] || l == [42] || l == [47] || l == [37] || l == [38] || l == [124] || l == [94] || l == [33] || l == [60] || l == [62] || l == [61, 61] || l == [33, 61] || l == [60, 61] || l == [62, 61] || l == [60, 60] || l == [62, 62] || l == [45, 62]

def kwd (l : List UInt8) : Bool := kw0 l || tyw l

set_option maxRecDepth 100000 in
set_option maxHeartbeats 4000000 in
theorem isTypeWord_q (s : ByteArray) (w : World) : Calls Tryz.prog 162 #[.string s] w fun e w' => e = .returned (.bool (tyw s.toList)) ∧ w = w' := by
  obtain ⟨r, hr⟩ : ∃ r, tyw s.toList = r := ⟨_, rfl⟩
  rw [hr]
  have HR := Lib.hid hr
  clear hr
  go_enter Tryz.func162, Tryz.ntmps162
  go_wp2
  all_goals go_ret
  all_goals exact ⟨ret_bool (by rw [← HR.out]; simp_all [tyw]), rfl⟩

set_option maxRecDepth 100000 in
set_option maxHeartbeats 4000000 in
theorem rIsTypeWord_q (s : ByteArray) (w : World) : Calls Tryz.prog 143 #[.string s] w fun e w' => e = .returned (.bool (tyw s.toList)) ∧ w = w' := by
  obtain ⟨r, hr⟩ : ∃ r, tyw s.toList = r := ⟨_, rfl⟩
  rw [hr]
  have HR := Lib.hid hr
  clear hr
  go_enter Tryz.func143, Tryz.ntmps143
  go_wp2
  all_goals go_ret
  all_goals exact ⟨ret_bool (by rw [← HR.out]; simp_all [tyw]), rfl⟩

set_option maxRecDepth 100000 in
set_option maxHeartbeats 4000000 in
theorem isSign_q (s : ByteArray) (w : World) : Calls Tryz.prog 133 #[.string s] w fun e w' => e = .returned (.bool (sgw s.toList)) ∧ w = w' := by
  obtain ⟨r, hr⟩ : ∃ r, sgw s.toList = r := ⟨_, rfl⟩
  rw [hr]
  have HR := Lib.hid hr
  clear hr
  go_enter Tryz.func133, Tryz.ntmps133
  go_wp2
  all_goals go_ret
  all_goals exact ⟨ret_bool (by rw [← HR.out]; simp_all [sgw]), rfl⟩

set_option maxRecDepth 100000 in
set_option maxHeartbeats 4000000 in
theorem rIsSign_q (s : ByteArray) (w : World) : Calls Tryz.prog 59 #[.string s] w fun e w' => e = .returned (.bool (sgw s.toList)) ∧ w = w' := by
  obtain ⟨r, hr⟩ : ∃ r, sgw s.toList = r := ⟨_, rfl⟩
  rw [hr]
  have HR := Lib.hid hr
  clear hr
  go_enter Tryz.func59, Tryz.ntmps59
  go_wp2
  all_goals go_ret
  all_goals exact ⟨ret_bool (by rw [← HR.out]; simp_all [sgw]), rfl⟩

set_option maxRecDepth 100000 in
set_option maxHeartbeats 4000000 in
theorem isKeyword_q (s : ByteArray) (w : World) : Calls Tryz.prog 149 #[.string s] w fun e w' => e = .returned (.bool (kwd s.toList)) ∧ w = w' := by
  obtain ⟨r, hr⟩ : ∃ r, kwd s.toList = r := ⟨_, rfl⟩
  rw [hr]
  have HR := Lib.hid hr
  clear hr
  go_enter Tryz.func149, Tryz.ntmps149
  go_wp2_with (go_at_call 162; (refine (isTypeWord_q s _).mono ?_); rintro _ _ ⟨rfl, rfl⟩)
  all_goals go_ret
  all_goals exact ⟨ret_bool (by rw [← HR.out]; simp_all [kwd, kw0]), rfl⟩

set_option maxRecDepth 100000 in
set_option maxHeartbeats 4000000 in
theorem rIsKeyword_q (s : ByteArray) (w : World) : Calls Tryz.prog 142 #[.string s] w fun e w' => e = .returned (.bool (kwd s.toList)) ∧ w = w' := by
  obtain ⟨r, hr⟩ : ∃ r, kwd s.toList = r := ⟨_, rfl⟩
  rw [hr]
  have HR := Lib.hid hr
  clear hr
  go_enter Tryz.func142, Tryz.ntmps142
  go_wp2_with (go_at_call 143; (refine (rIsTypeWord_q s _).mono ?_); rintro _ _ ⟨rfl, rfl⟩)
  all_goals go_ret
  all_goals exact ⟨ret_bool (by rw [← HR.out]; simp_all [kwd, kw0]), rfl⟩

end Go.Proofs.YtjpkcgepdfpbnaaGreatDoor
