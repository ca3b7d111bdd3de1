/- The heads of layer 11: their walk. -/
import Derived.Test.YtimipkbingbifaaCHeads
namespace Go.Proofs.Ytimipkbingbifaa
open Go Go.RowKit

set_option maxRecDepth 100000 in
set_option maxHeartbeats 4000000 in
theorem heads_true (w : World) : Calls Try.prog 17 #[] w fun e w' => e = .returned (.bool true) ∧ Below w.heap.size w w' := by
  have hsf := run_store_float Try.prog
  have h4 := hd_split
  have h5 := hd_join
  have h9 := hd_nan
  unfold timeV at h4 h5 h9
  have H4 := Lib.hid h4
  have H5 := Lib.hid h5
  have H9 := Lib.hid h9
  clear h4 h5 h9
  go_enter Try.func17, Try.ntmps17
  go_wp2_with fail
  refine (hd_day1 _).mono ?_
  rintro e w1 ⟨rfl, b1⟩
  have B1 := Lib.hid b1
  clear b1
  go_wp2_with fail
  refine (hd_day2 _).mono ?_
  rintro e w2 ⟨rfl, b2⟩
  have B2 := Lib.hid (B1.out.trans (b2.mono B1.out.size))
  clear b2 B1
  go_wp2_with fail
  refine (hd_date _).mono ?_
  rintro e w3 ⟨rfl, b3⟩
  have B3 := Lib.hid (B2.out.trans (b3.mono B2.out.size))
  clear b3 B2
  go_wp2_with fail
  refine (H4.out _).mono ?_
  rintro e w4 ⟨rfl, b4⟩
  have B4 := Lib.hid (B3.out.trans (b4.mono B3.out.size))
  clear b4 B3
  go_wp2_with fail
  have hr5 := heap_alloc_new w4 (Obj.cells #[.int .i64 1969, .int .i64 11, .int .i64 31, .int .i64 23, .int .i64 59, .float .f64 4633500329122463744, .int .i64 3, .int .i64 364] 37)
  have hb5 := B4.out.alloc B4.out.size (Obj.cells #[.int .i64 1969, .int .i64 11, .int .i64 31, .int .i64 23, .int .i64 59, .float .f64 4633500329122463744, .int .i64 3, .int .i64 364] 37)
  have hz5 : w4.heap.size < (w4.alloc (Obj.cells #[.int .i64 1969, .int .i64 11, .int .i64 31, .int .i64 23, .int .i64 59, .float .f64 4633500329122463744, .int .i64 3, .int .i64 364] 37)).heap.size := by simp
  generalize w4.alloc (Obj.cells #[.int .i64 1969, .int .i64 11, .int .i64 31, .int .i64 23, .int .i64 59, .float .f64 4633500329122463744, .int .i64 3, .int .i64 364] 37) = X5 at hr5 hb5 hz5 ⊢
  have R5 := Lib.hid hr5
  have B5 := Lib.hid hb5
  have Z5 := Lib.hid hz5
  clear hr5 hb5 hz5
  refine (H5.out _).mono ?_
  rintro e w5 ⟨rfl, b5⟩
  have R6 := Lib.hid ((b5.block w4.heap.size Z5.out).trans R5.out)
  have B6 := Lib.hid (B5.out.trans (b5.mono B5.out.size))
  have Z6 := Lib.hid (Nat.lt_of_lt_of_le Z5.out b5.size)
  clear b5 R5 B5 Z5
  go_wp2_with fail
  refine (hd_day3 _).mono ?_
  rintro e w6 ⟨rfl, b6⟩
  have R7 := Lib.hid ((b6.block w4.heap.size Z6.out).trans R6.out)
  have B7 := Lib.hid (B6.out.trans (b6.mono B6.out.size))
  have Z7 := Lib.hid (Nat.lt_of_lt_of_le Z6.out b6.size)
  clear b6 R6 B6 Z6
  go_wp2_with fail
  refine (hd_weeks _).mono ?_
  rintro e w7 ⟨rfl, b7⟩
  have R8 := Lib.hid ((b7.block w4.heap.size Z7.out).trans R7.out)
  have B8 := Lib.hid (B7.out.trans (b7.mono B7.out.size))
  have Z8 := Lib.hid (Nat.lt_of_lt_of_le Z7.out b7.size)
  clear b7 R7 B7 Z7
  go_wp2_with fail
  refine (NaN_any _).mono ?_
  rintro e w8 ⟨rfl, rfl⟩
  go_wp2_with fail
  refine (H9.out _).mono ?_
  rintro e w9 ⟨rfl, b9⟩
  have R9 := Lib.hid ((b9.block w4.heap.size Z8.out).trans R8.out)
  have B9 := Lib.hid (B8.out.trans (b9.mono B8.out.size))
  have Z9 := Lib.hid (Nat.lt_of_lt_of_le Z8.out b9.size)
  clear b9 R8 B8 Z8
  obtain ⟨u0, u1, u2, u3, u4, u5, u6, u7⟩ := row8 R9.out
  have z9 := Z9.out
  have hfe := eqF_true 4633500329122463744 4633500329122463744 (by decide +kernel)
  go_wp2_with fail
  refine (hd_leap _).mono ?_
  rintro e wa ⟨rfl, ba⟩
  have Ba := Lib.hid ((B9.out.alloc B9.out.size (Obj.cells #[.int .i64 0, .int .i64 0, .int .i64 0, .int .i64 0, .int .i64 0, .float .f64 0, .int .i64 0, .int .i64 0] 37)).trans (ba.mono (by simp; have := B9.out.size; omega)))
  clear ba u0 u1 u2 u3 u4 u5 u6 u7
  go_wp2_with fail
  refine (hd_length _).mono ?_
  rintro e wb ⟨rfl, bb⟩
  have Bb := Lib.hid (Ba.out.trans (bb.mono Ba.out.size))
  clear bb
  go_wp2_with fail
  go_ret
  exact ⟨rfl, Bb.out⟩
end Go.Proofs.Ytimipkbingbifaa
