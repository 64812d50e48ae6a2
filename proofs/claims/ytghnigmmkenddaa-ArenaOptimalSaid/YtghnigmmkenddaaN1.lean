/- Keywords and names. -/
import Derived.Test.YtghnigmmkenddaaRows
import Derived.WalkKit
import Derived.ProofKit
import Derived.OpenShut
import Derived.WalkLawsBesides
import Derived.WalkSpells
import Derived.Outline
import Derived.Handy
import Derived.IntWalk
import Derived.Deep.QuietTactic
import Derived.BigQuiet
import Derived.Lib.Hide
namespace Go.Proofs.Ytghnigmmkenddaa.Nm
open Go.ChangeShapes Go.WideShapes Go.ChangeAt Go.RowKit
set_option linter.unusedVariables false
set_option linter.unusedSimpArgs false
theorem ret_bool {a b : Bool} (h : a = b) : Ending.returned (.bool a) = .returned (.bool b) := by rw [h]
def kwL : List (List UInt8) := [[115, 105, 122, 101], [119, 104, 101, 114, 101], [105, 110], [100, 101, 102], [111, 117, 116], [115, 117, 109], [112, 114, 111, 100], [109, 105, 110], [109, 97, 120], [115, 99, 97, 110], [111, 118, 101, 114], [105, 102], [99, 97, 115, 116], [102, 114, 97, 99], [105, 110, 116], [102, 105, 120], [99, 101, 105, 108], [102, 108, 111, 111, 114], [122, 101, 114, 111], [101, 118, 101, 110], [115, 97, 116], [119, 114, 97, 112]]
def kwB (l : List UInt8) : Bool := kwL.contains l
theorem two {a b : Bool} (h : a = true) (h2 : a = false) : False := by rw [h] at h2; cases h2
set_option maxRecDepth 100000 in
set_option maxHeartbeats 4000000 in
theorem isKeyword (s : ByteArray) (w : World) : Calls Try.prog 48 #[.string s] w fun e w' => e = .returned (.bool (kwB s.toList)) ∧ w = w' := by
  have HK : Hid (kwB s.toList = (s.toList == [115, 105, 122, 101] || (s.toList == [119, 104, 101, 114, 101] || (s.toList == [105, 110] || (s.toList == [100, 101, 102] || (s.toList == [111, 117, 116] || (s.toList == [115, 117, 109] || (s.toList == [112, 114, 111, 100] || (s.toList == [109, 105, 110] || (s.toList == [109, 97, 120] || (s.toList == [115, 99, 97, 110] || (s.toList == [111, 118, 101, 114] || (s.toList == [105, 102] || (s.toList == [99, 97, 115, 116] || (s.toList == [102, 114, 97, 99] || (s.toList == [105, 110, 116] || (s.toList == [102, 105, 120] || (s.toList == [99, 101, 105, 108] || (s.toList == [102, 108, 111, 111, 114] || (s.toList == [122, 101, 114, 111] || (s.toList == [101, 118, 101, 110] || (s.toList == [115, 97, 116] || (s.toList == [119, 114, 97, 112]))))))))))))))))))))))) := Lib.hid (by unfold kwB kwL; simp only [List.contains_cons, List.contains_nil, Bool.or_false])
  go_enter Try.func48, Try.ntmps48
  go_wp2
  all_goals
    first
    | (exfalso; simp_all; done)
    | (go_ret; refine ⟨ret_bool ?_, rfl⟩; rw [HK.out]; simp only [*, Bool.or_true, Bool.true_or, Bool.or_false])
end Go.Proofs.Ytghnigmmkenddaa.Nm
