/- ClockBack: the row's closed cells, one declaration each. -/
import Derived.Test.YtebekdgoabhekaaGreatDoorCards
import Derived.Test.YtebekdgoabhekaaGreatDoorChecked
import Derived.JoinedOf
import Derived.KernelRfl
namespace Go.Proofs.YtebekdgoabhekaaGreatDoor.clockBackCard
open Go

theorem andB {a b : Bool} (ha : a = true) (hb : b = true) : (a && b) = true := by rw [ha, hb]; rfl
set_option maxHeartbeats 100000000 in
theorem facts : joinedFacts Tryz.prog 5 Tryz.f5 (OpenSpec.ofChange Rows.clockBackSpec).bare Rows.clockBackRow = true := by
  unfold joinedFacts
  repeat' with_reducible refine andB ?_ ?_
  all_goals (as_aux_lemma => kernel_rfl)
end Go.Proofs.YtebekdgoabhekaaGreatDoor.clockBackCard
