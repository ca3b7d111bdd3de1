/- ValueSums: the row's closed cells, one declaration each. -/
import Derived.Test.YtdlighmnlcklnaaGreatDoorCards
import Derived.Test.YtdlighmnlcklnaaGreatDoorChecked
import Derived.JoinedOf
import Derived.KernelRfl
namespace Go.Proofs.YtdlighmnlcklnaaGreatDoor.valueSumsCard
open Go

theorem andB {a b : Bool} (ha : a = true) (hb : b = true) : (a && b) = true := by rw [ha, hb]; rfl
set_option maxHeartbeats 100000000 in
theorem facts : joinedFacts Tryz.prog 4 Tryz.f4 (Rows.OpenSpec.upto Rows.valueSumsSpec).bare Rows.valueSumsUptoRow = true := by
  unfold joinedFacts
  repeat' with_reducible refine andB ?_ ?_
  all_goals (as_aux_lemma => kernel_rfl)
end Go.Proofs.YtdlighmnlcklnaaGreatDoor.valueSumsCard
