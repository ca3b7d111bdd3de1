/- The program's Length makes no memory. -/
import Derived.Test.YtimipkbingbifaaCPrgI
namespace Go.Proofs.Ytimipkbingbifaa
open Go Go.RowKit

theorem Length_quiet (y m : Int) (h1 : -9223372036854775808 ≤ y) (h2 : y ≤ 9223372036854775807) (w : World) : Calls Try.prog 15 #[.int .i64 y, .int .i64 m] w fun e w' => e = .returned (.int .i64 (lenI y m)) ∧ ∃ n, w' = w.drewN n :=
  (prgLength_any y m h1 h2 w).mono fun _ _ ⟨a, b⟩ => ⟨a, 0, b.symm⟩
end Go.Proofs.Ytimipkbingbifaa
