/- ClockFormats: the row's closed cells, one declaration each. -/
import Derived.Test.YtebekdgoabhekaaGreatDoorCards
import Derived.Test.YtebekdgoabhekaaGreatDoorChecked
import Derived.JoinedOf
import Derived.KernelRfl
namespace Go.Proofs.YtebekdgoabhekaaGreatDoor.clockFormatsCard
open Go

theorem andB {a b : Bool} (ha : a = true) (hb : b = true) : (a && b) = true := by rw [ha, hb]; rfl
set_option maxHeartbeats 100000000 in
theorem facts : joinedFacts Tryz.prog 3 Tryz.f3 (Rows.OpenSpec.upto Rows.clockFormatsSpec).bare Rows.clockFormatsUptoRow = true := by
  unfold joinedFacts
  repeat' with_reducible refine andB ?_ ?_
  all_goals (as_aux_lemma => kernel_rfl)
end Go.Proofs.YtebekdgoabhekaaGreatDoor.clockFormatsCard
