/- FormatBase64: the row's closed cells, one declaration each. -/
import Derived.Test.YtpobdmkidopnnaaGreatDoorCards
import Derived.Test.YtpobdmkidopnnaaGreatDoorChecked
import Derived.JoinedOf
import Derived.KernelRfl
namespace Go.Proofs.YtpobdmkidopnnaaGreatDoor.formatBase64Card
open Go

theorem andB {a b : Bool} (ha : a = true) (hb : b = true) : (a && b) = true := by rw [ha, hb]; rfl
set_option maxHeartbeats 100000000 in
theorem facts : joinedFacts Tryz.prog 4 Tryz.f4 (Rows.OpenSpec.upto Rows.formatBase64Spec).bare Rows.formatBase64UptoRow = true := by
  unfold joinedFacts
  repeat' with_reducible refine andB ?_ ?_
  all_goals (as_aux_lemma => kernel_rfl)
end Go.Proofs.YtpobdmkidopnnaaGreatDoor.formatBase64Card
