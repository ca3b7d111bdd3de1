/- NumberTexts: the row's closed cells, one declaration each. -/
import Derived.Test.YtamgdmmijlbjjaaGreatDoorCards
import Derived.Test.YtamgdmmijlbjjaaGreatDoorChecked
import Derived.JoinedOf
import Derived.KernelRfl
namespace Go.Proofs.YtamgdmmijlbjjaaGreatDoor.numberTextsCard
open Go

theorem andB {a b : Bool} (ha : a = true) (hb : b = true) : (a && b) = true := by rw [ha, hb]; rfl
set_option maxHeartbeats 100000000 in
theorem facts : joinedFacts Tryz.prog 3 Tryz.f3 Rows.numberTextsSpec Rows.numberTextsRow = true := by
  unfold joinedFacts
  repeat' with_reducible refine andB ?_ ?_
  all_goals (as_aux_lemma => kernel_rfl)
end Go.Proofs.YtamgdmmijlbjjaaGreatDoor.numberTextsCard
