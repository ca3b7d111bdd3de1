/- ValueSorted: the row's closed cells, one declaration each. -/
import Derived.Test.YtkklfdfmfdnjoaaGreatDoorCards
import Derived.Test.YtkklfdfmfdnjoaaGreatDoorChecked
import Derived.JoinedOf
import Derived.KernelRfl
namespace Go.Proofs.YtkklfdfmfdnjoaaGreatDoor.valueSortedCard
open Go

theorem andB {a b : Bool} (ha : a = true) (hb : b = true) : (a && b) = true := by rw [ha, hb]; rfl
set_option maxHeartbeats 100000000 in
theorem facts : joinedFacts Tryz.prog 8 Tryz.f8 (Rows.OpenSpec.upto Rows.valueSortedSpec).bare Rows.valueSortedUptoRow = true := by
  unfold joinedFacts
  repeat' with_reducible refine andB ?_ ?_
  all_goals (as_aux_lemma => kernel_rfl)
end Go.Proofs.YtkklfdfmfdnjoaaGreatDoor.valueSortedCard
