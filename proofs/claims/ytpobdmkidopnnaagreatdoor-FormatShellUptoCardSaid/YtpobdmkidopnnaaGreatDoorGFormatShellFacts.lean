/- FormatShell: the row's closed cells, one declaration each. -/
import Derived.Test.YtpobdmkidopnnaaGreatDoorCards
import Derived.Test.YtpobdmkidopnnaaGreatDoorChecked
import Derived.JoinedOf
import Derived.KernelRfl
namespace Go.Proofs.YtpobdmkidopnnaaGreatDoor.formatShellCard
open Go

theorem andB {a b : Bool} (ha : a = true) (hb : b = true) : (a && b) = true := by rw [ha, hb]; rfl
set_option maxHeartbeats 100000000 in
theorem facts : joinedFacts Tryz.prog 5 Tryz.f5 (Rows.OpenSpec.upto Rows.formatShellSpec).bare Rows.formatShellUptoRow = true := by
  unfold joinedFacts
  repeat' with_reducible refine andB ?_ ?_
  all_goals (as_aux_lemma => kernel_rfl)
end Go.Proofs.YtpobdmkidopnnaaGreatDoor.formatShellCard
