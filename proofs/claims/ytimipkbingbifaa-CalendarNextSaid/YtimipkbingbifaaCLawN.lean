/- CalendarNext: every number. -/
import Derived.Test.YtimipkbingbifaaCNextT1
import Derived.Test.YtimipkbingbifaaCNextT2
import Derived.Test.YtimipkbingbifaaCNextT3
namespace Go.Proofs.Ytimipkbingbifaa
open Go Go.RowKit

theorem nextday_true (n : Int) (w : World) : Calls Try.prog 8 #[.int .i64 n] w fun e w' => e = .returned (.bool true) ∧ Below w.heap.size w w' := by
  by_cases h : n < -4371587 ∨ 2932896 < n
  · exact next_no n h w
  · obtain ⟨y, m, d, hD, rfl⟩ := num_ex n (by omega) (by omega)
    rcases day_cases y m d hD with ⟨y2, m2, d2, hD2, hn, h2⟩ | hl
    · rcases h2 with ⟨rfl, rfl, rfl⟩ | ⟨hq, rfl, rfl, rfl⟩ | ⟨hq, rfl, rfl, rfl, rfl⟩
      · have hlt : d < lenI y2 m2 := by have := hD2.2.2.2; omega
        exact next_t1 _ _ d hD hn hD2 hlt w
      · exact next_t2 _ m d hD hn hD2 hq w
      · exact next_t3 y d hD hn hD2 hq w
    · exact next_last y m d hD hl w
end Go.Proofs.Ytimipkbingbifaa
