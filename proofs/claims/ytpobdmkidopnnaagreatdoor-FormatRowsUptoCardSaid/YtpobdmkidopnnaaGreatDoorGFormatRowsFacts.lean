/- FormatRows: the row's closed cells, one declaration each. -/
import Derived.Test.YtpobdmkidopnnaaGreatDoorCards
import Derived.Test.YtpobdmkidopnnaaGreatDoorChecked
import Derived.JoinedOf
import Derived.KernelRfl
namespace Go.Proofs.YtpobdmkidopnnaaGreatDoor.formatRowsCard
open Go

theorem andB {a b : Bool} (ha : a = true) (hb : b = true) : (a && b) = true := by rw [ha, hb]; rfl
set_option maxHeartbeats 100000000 in
theorem facts : joinedFacts Tryz.prog 6 Tryz.f6 (Rows.OpenSpec.upto Rows.formatRowsSpec).bare Rows.formatRowsUptoRow = true := by
  unfold joinedFacts
  repeat' with_reducible refine andB ?_ ?_
  all_goals (as_aux_lemma => kernel_rfl)
end Go.Proofs.YtpobdmkidopnnaaGreatDoor.formatRowsCard
