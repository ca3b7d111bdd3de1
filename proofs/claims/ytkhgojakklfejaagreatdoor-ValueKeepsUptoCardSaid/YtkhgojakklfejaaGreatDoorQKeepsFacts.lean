/- ValueKeeps: the row's closed cells, one declaration each. -/
import Derived.Test.YtkhgojakklfejaaGreatDoorCards
import Derived.Test.YtkhgojakklfejaaGreatDoorChecked
import Derived.JoinedOf
import Derived.KernelRfl
namespace Go.Proofs.YtkhgojakklfejaaGreatDoor.valueKeepsCard
open Go

theorem andB {a b : Bool} (ha : a = true) (hb : b = true) : (a && b) = true := by rw [ha, hb]; rfl
set_option maxHeartbeats 100000000 in
theorem facts : joinedFacts Tryz.prog 9 Tryz.f9 (Rows.OpenSpec.upto Rows.valueKeepsSpec).bare Rows.valueKeepsUptoRow = true := by
  unfold joinedFacts
  repeat' with_reducible refine andB ?_ ?_
  all_goals (as_aux_lemma => kernel_rfl)
end Go.Proofs.YtkhgojakklfejaaGreatDoor.valueKeepsCard
