/- The heads of layer 11. -/
import Derived.Test.YtimipkbingbifaaCPrgI
namespace Go.Proofs.Ytimipkbingbifaa
open Go Go.RowKit

instance (y m d : Int) : Decidable (OkD y m d) := by unfold OkD; infer_instance
theorem hd_day1 (w : World) : Calls Try.prog 9 #[.int .i64 2000, .int .i64 1, .int .i64 29] w fun e w' => e = .returned (.tuple #[.int .i64 11016, .int .i64 0]) ∧ Below w.heap.size w w' := by
  have e := Day_yes 2000 1 29 (by decide) w
  rw [show numI 2000 1 29 = 11016 from by decide] at e
  exact e
theorem hd_day2 (w : World) : Calls Try.prog 9 #[.int .i64 1900, .int .i64 1, .int .i64 29] w fun e w' => e = .returned (.tuple #[.int .i64 0, .int .i64 110]) ∧ Below w.heap.size w w' :=
  Day_no 1900 1 29 (by omega) (by omega) (by decide) w
theorem hd_day3 (w : World) : Calls Try.prog 9 #[.int .i64 2021, .int .i64 0, .int .i64 1] w fun e w' => e = .returned (.tuple #[.int .i64 18628, .int .i64 0]) ∧ Below w.heap.size w w' := by
  have e := Day_yes 2021 0 1 (by decide) w
  rw [show numI 2021 0 1 = 18628 from by decide] at e
  exact e
theorem hd_date (w : World) : Calls Try.prog 11 #[.int .i64 (-719528)] w fun e w' => e = .returned (.tuple #[.int .i64 0, .int .i64 0, .int .i64 1, .int .i64 0]) ∧ Below w.heap.size w w' := by
  have e := Date_of 0 0 1 (by decide) w
  rw [show numI 0 0 1 = -719528 from by decide] at e
  exact e
theorem hd_weeks (w : World) : Calls Try.prog 22 #[.int .i64 18628] w fun e w' => e = .returned (.tuple #[.int .i64 2020, .int .i64 53, .int .i64 0, .int .i64 0, .int .i64 0]) ∧ Below w.heap.size w w' := by
  have e := Weeks_of 2021 0 1 (by decide) w
  rw [show numI 2021 0 1 = 18628 from by decide, show isoI 18628 2021 = 2020 from by decide, show weekI 18628 2020 = 53 from by decide, show sunI 18628 2021 = 0 from by decide, show monI 18628 2021 = 0 from by decide] at e
  exact e
theorem hd_split (w : World) : Calls Try.prog 18 #[.float .f64 13830554455654793216] w fun e w' => e = .returned (.tuple #[.agg (timeV 1969 11 31 23 59 4633500329122463744 3 364), .int .i64 0]) ∧ Below w.heap.size w w' := by
  have hfl : flI 13830554455654793216 = -1 := by decide +kernel
  have e := Split_of 13830554455654793216 (by decide) 1969 11 31 86399 (by decide) (by rw [hfl]; decide) (by rw [hfl]; decide) w
  rw [show numI 1969 11 31 = -1 from by decide, show secB 13830554455654793216 (86399 % 60) = 4633500329122463744 from by decide +kernel, show (86399 : Int) / 3600 = 23 from by decide, show (86399 : Int) / 60 % 60 = 59 from by decide, show ((-1 : Int) + 4) % 7 = 3 from by decide, show -1 - beginI 1969 0 = 364 from by decide] at e
  exact e
theorem hd_join (w : World) : Calls Try.prog 20 #[.agg (timeV 2015 14 0 25 0 0 0 0)] w fun e w' => e = .returned (.tuple #[.int .i64 1456794000, .int .i64 0]) ∧ Below w.heap.size w w' := by
  have hfl : flI 0 = 0 := by decide +kernel
  have hs : secI (2015 + 14 / 12) (14 % 12) 0 25 0 0 = 1456794000 := by unfold secI; rw [hfl]; decide
  have e := Join_of 2015 14 0 25 0 0 0 0 ⟨by decide, by decide, by decide, by decide, by decide, .inl (by decide +kernel), .inl (by decide +kernel)⟩ (by decide) (by rw [hs]; decide) (by rw [hs]; decide) w
  rw [hs] at e
  exact e
theorem hd_leap (w : World) : Calls Try.prog 13 #[.int .i64 2000] w fun e w' => e = .returned (.bool true) ∧ Below w.heap.size w w' := by
  have e := Leap_ok 2000 (by omega) (by omega) w
  rw [show leapB 2000 = true from by decide] at e
  exact e
theorem hd_length (w : World) : Calls Try.prog 15 #[.int .i64 1900, .int .i64 1] w fun e w' => e = .returned (.int .i64 28) ∧ Below w.heap.size w w' := by
  have e := Length_ok 1900 1 (by omega) (by omega) w
  rw [show lenI 1900 1 = 28 from by decide] at e
  exact e
theorem NaN_ext (w : World) : (callFunc 44 #[.int .u64 9221120237041090561]).run Try.prog w = .ok (.value (.float .f64 9221120237041090561)) w := by
  rw [run_callFunc_extern Try.func44 (by kernel_rfl) (by kernel_rfl) (by kernel_rfl) (e := Extern.MathFloatBits.float64frombits) (by kernel_rfl)]
  rfl
theorem NaN_any (w : World) : Calls Try.prog 33 #[] w fun e w' => e = .returned (.float .f64 9221120237041090561) ∧ w = w' := by
  have h := NaN_ext
  go_enter Try.func33, Try.ntmps33
  go_wp2_with fail
  go_ret
  exact ⟨rfl, rfl⟩
theorem hd_nan (w : World) : Calls Try.prog 18 #[.float .f64 9221120237041090561] w fun e w' => e = .returned (.tuple #[.agg (timeV 0 0 0 0 0 0 0 0), .int .i64 110]) ∧ Below w.heap.size w w' :=
  Split_nan _ (by decide) w
end Go.Proofs.Ytimipkbingbifaa
