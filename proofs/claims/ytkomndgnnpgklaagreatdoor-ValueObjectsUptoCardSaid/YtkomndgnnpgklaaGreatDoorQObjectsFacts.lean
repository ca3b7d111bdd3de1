/- ValueObjects: the row's closed cells, one declaration each. -/
import Derived.Test.YtkomndgnnpgklaaGreatDoorCards
import Derived.Test.YtkomndgnnpgklaaGreatDoorChecked
import Derived.JoinedOf
import Derived.KernelRfl
namespace Go.Proofs.YtkomndgnnpgklaaGreatDoor.valueObjectsCard
open Go

theorem andB {a b : Bool} (ha : a = true) (hb : b = true) : (a && b) = true := by rw [ha, hb]; rfl
set_option maxHeartbeats 100000000 in
theorem facts : joinedFacts Tryz.prog 7 Tryz.f7 (Rows.OpenSpec.upto Rows.valueObjectsSpec).bare Rows.valueObjectsUptoRow = true := by
  unfold joinedFacts
  repeat' with_reducible refine andB ?_ ?_
  all_goals (as_aux_lemma => kernel_rfl)
end Go.Proofs.YtkomndgnnpgklaaGreatDoor.valueObjectsCard
