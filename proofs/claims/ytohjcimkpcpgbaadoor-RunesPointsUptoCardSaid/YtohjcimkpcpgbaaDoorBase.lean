/- Small functions of the layer runes and of its answers: contracts of one call each. -/
import Derived.Test.YtohjcimkpcpgbaaDoorChecked
import Derived.Test.YtohjcimkpcpgbaaDoorPlain
import Derived.WalkKit
import Derived.ProofKit
import Derived.OpenShut
import Derived.Lib.Hide
import Derived.PlainAid
namespace Go.Proofs.YtohjcimkpcpgbaaDoor
open Go.RowKit

set_option maxHeartbeats 400000 in
theorem isPoint_any (p : Int) (w : World) : Calls Tryd.prog 33 #[.int .i64 p] w fun e w' => e = .returned (.bool (right p)) ∧ w = w' := by
  go_enter Tryd.func33, Tryd.ntmps33
  go_wp2
  all_goals go_ret
  all_goals (refine ⟨?_, rfl⟩; simp [right, *] <;> (intros; omega))

set_option maxHeartbeats 400000 in
theorem refRight_any (p : Int) (w : World) : Calls Tryd.prog 36 #[.int .i64 p] w fun e w' => e = .returned (.bool (right p)) ∧ w = w' := by
  go_enter Tryd.func36, Tryd.ntmps36
  go_wp2
  all_goals go_ret
  all_goals (refine ⟨?_, rfl⟩; simp [right, *] <;> (intros; omega))
end Go.Proofs.YtohjcimkpcpgbaaDoor
