/- CalendarNext: its walk (3). -/
import Derived.Test.YtimipkbingbifaaCNextW
namespace Go.Proofs.Ytimipkbingbifaa
open Go Go.RowKit

set_option maxRecDepth 100000 in
set_option maxHeartbeats 8000000 in
theorem next_t3 (y d : Int) (hD : OkD y 11 d) (hn : numI (y + 1) 0 1 = numI y 11 d + 1) (hD2 : OkD (y + 1) 0 1) (hq : d = lenI y 11) (w : World) : Calls Try.prog 8 #[.int .i64 (numI y 11 d)] w fun e w' => e = .returned (.bool true) ∧ Below w.heap.size w w' := by
  have hsf := run_store_float Try.prog
  have hci := conv_int
  have hr := num_range y 11 d hD
  have hin := num_in y 11 d hD
  have hDt := fun w => Date_of y 11 d hD w
  obtain ⟨s, yd, hSp⟩ := Split_day2 y 11 d hD
  unfold timeV at hSp
  have hFa := far_date y 11 d hD
  have hDt2 := fun w => Date_of (y + 1) 0 1 hD2 w
  obtain ⟨s2, yd2, hSp2⟩ := Split_day2 (y + 1) 0 1 hD2
  unfold timeV at hSp2
  have hin2 := num_in (y + 1) 0 1 hD2
  have hWk := fun w => Weeks_of y 11 d hD w
  have hWk2 := fun w => Weeks_of (y + 1) 0 1 hD2 w
  obtain ⟨⟨hy1, hy2⟩, _, hd1, hd2⟩ := hD
  have hlb := lenI_bd y 11 (by omega) (by omega)
  obtain ⟨hlb1, hlb2⟩ := hlb
  rw [hn] at hDt2 hSp2 hin2 hWk2
  obtain ⟨N, hN⟩ : ∃ N, numI y 11 d = N := ⟨_, rfl⟩
  rw [hN] at hr hin hDt hSp hFa hDt2 hSp2 hin2 hWk hWk2 ⊢
  have hws := week_same N y (y + 1) hin.1 hin.2 hin2.1 hin2.2
  have hwn := week_next N y (y + 1) hin.1 hin.2 hin2.1 hin2.2
  have hio := iso_in N y hin.1 hin.2
  have hil := yearI_two (isoI N y)
  have hwe : weekI N (isoI N y) = (thI N - beginI (isoI N y) 0) / 7 + 1 := rfl
  have hib : -10001 ≤ isoI N y ∧ isoI N y ≤ 10001 := by unfold isoI; split <;> (try split) <;> omega
  obtain ⟨I, hI⟩ : ∃ I, isoI N y = I := ⟨_, rfl⟩
  rw [hI] at hws hwn hio hil hwe hib hWk
  obtain ⟨K, hK⟩ : ∃ K, weekI N I = K := ⟨_, rfl⟩
  rw [hK] at hws hwn hwe hWk
  have hK1 : 1 ≤ K := by omega
  have hK2 : K ≤ 54 := by omega
  obtain ⟨wd, hwd⟩ : ∃ wd, (N + 4) % 7 = wd := ⟨_, rfl⟩
  rw [hwd] at hSp
  obtain ⟨wd2, hwd2⟩ : ∃ wd2, (N + 1 + 4) % 7 = wd2 := ⟨_, rfl⟩
  rw [hwd2] at hSp2
  have hwc : wd2 = (wd + 1) % 7 := by omega
  have hwd1 : 0 ≤ wd := by omega
  have hwd3 : wd < 7 := by omega
  have f1 : (wd2 == (wd + 1) % 7) = true := by rw [hwc]; simp
  have hmon : (N + 5) % 7 = wd2 := by omega
  rw [hmon] at hws hwn
  obtain ⟨I2, hI2⟩ : ∃ I2, isoI (N + 1) (y + 1) = I2 := ⟨_, rfl⟩
  rw [hI2] at hws hwn hWk2
  obtain ⟨K2, hK2'⟩ : ∃ K2, weekI (N + 1) I2 = K2 := ⟨_, rfl⟩
  rw [hK2'] at hWk2
  have hW : (I2 = I ∧ K2 = K ∧ wd2 ≠ 1) ∨ (I2 = I ∧ K2 = K + 1 ∧ wd2 = 1) ∨ (I2 = I + 1 ∧ K2 = 1 ∧ wd2 = 1 ∧ 52 ≤ K) := by
    by_cases h1 : wd2 = 1
    · rcases hwn h1 with ⟨a, b⟩ | ⟨a, b, c⟩
      · right; left; exact ⟨a, by rw [← hK2', a, b], h1⟩
      · right; right; exact ⟨a, by rw [← hK2', a, b], h1, c⟩
    · obtain ⟨a, b⟩ := hws h1
      left; exact ⟨a, by rw [← hK2', a, b], h1⟩
  have hln := fun w => Length_ok y 11 (by omega) (by omega) w
  obtain ⟨hr1, hr2⟩ := hr
  obtain ⟨hib1, hib2⟩ := hib
  have HDt := Lib.hid hDt
  have HSp := Lib.hid hSp
  have HDt2 := Lib.hid hDt2
  have HSp2 := Lib.hid hSp2
  have HWk := Lib.hid hWk
  have HWk2 := Lib.hid hWk2
  have HLn := Lib.hid hln
  have e1 : (y != y) = false := by simp
  have e2 : True := trivial
  have e3 : (d != d) = false := by simp
  have e4 : (y + 400 != y + 400) = false := by simp
  have e5 : (y == y) = true := by simp
  have e6 : True := trivial
  have e7 : (I == I) = true := by simp
  have e11 : (K == K) = true := by simp
  have e8 : (d == lenI y 11) = true := by rw [hq]; simp
  have e9 : (y + 1 == y) = false := by rw [beq_eq_false_iff_ne]; omega
  have e10 : (y + 1 == y + 1) = true := by simp
  have HQ := Lib.hid hq
  clear hDt hSp hDt2 hSp2 hWk hWk2 hln hwd hwd2 hN hin hin2 hws hwn hio hil hwe hI hK hI2 hK2' hmon hq hn hwc
  rcases hW with ⟨rfl, rfl, hw1⟩ | ⟨rfl, rfl, hw1⟩ | ⟨rfl, rfl, hw1, hw2⟩
  · have f2 : (wd2 != 1) = true := by simp [hw1]
    clear hw1
    rcases hFa with hFa | hFa
    all_goals
      have HFa := Lib.hid hFa
      clear hFa
      go_enter Try.func8, Try.ntmps8
      go_wp2_with fail
      refine (HDt.out _).mono ?_
      rintro e w1 ⟨rfl, b1⟩
      have B1 := Lib.hid b1
      clear b1
      go_wp2_with fail
      refine (HSp.out _).mono ?_
      rintro e w2 ⟨rfl, b2⟩
      have B2 := Lib.hid (B1.out.trans (b2.mono B1.out.size))
      clear b2 B1
      go_wp2_with fail
      have hr5 := heap_alloc_new w2 (Obj.cells #[.int .i64 y, .int .i64 11, .int .i64 d, .int .i64 0, .int .i64 0, .float .f64 s, .int .i64 wd, .int .i64 yd] 37)
      have hb5 := B2.out.alloc B2.out.size (Obj.cells #[.int .i64 y, .int .i64 11, .int .i64 d, .int .i64 0, .int .i64 0, .float .f64 s, .int .i64 wd, .int .i64 yd] 37)
      have hz5 : w2.heap.size < (w2.alloc (Obj.cells #[.int .i64 y, .int .i64 11, .int .i64 d, .int .i64 0, .int .i64 0, .float .f64 s, .int .i64 wd, .int .i64 yd] 37)).heap.size := by simp
      generalize w2.alloc (Obj.cells #[.int .i64 y, .int .i64 11, .int .i64 d, .int .i64 0, .int .i64 0, .float .f64 s, .int .i64 wd, .int .i64 yd] 37) = X5 at hr5 hb5 hz5 ⊢
      have R5 := Lib.hid hr5
      have B5 := Lib.hid hb5
      have Z5 := Lib.hid hz5
      clear hr5 hb5 hz5
      refine (HFa.out _).mono ?_
      rintro e w3 ⟨rfl, b3⟩
      have R6 := Lib.hid ((b3.block w2.heap.size Z5.out).trans R5.out)
      have B6 := Lib.hid (B5.out.trans (b3.mono B5.out.size))
      have Z6 := Lib.hid (Nat.lt_of_lt_of_le Z5.out b3.size)
      clear b3 R5 B5 Z5
      go_wp2_with fail
      refine (HDt2.out _).mono ?_
      rintro e w4 ⟨rfl, b4⟩
      have R7 := Lib.hid ((b4.block w2.heap.size Z6.out).trans R6.out)
      have B7 := Lib.hid (B6.out.trans (b4.mono B6.out.size))
      have Z7 := Lib.hid (Nat.lt_of_lt_of_le Z6.out b4.size)
      clear b4 R6 B6 Z6
      go_wp2_with fail
      refine (HSp2.out _).mono ?_
      rintro e w5 ⟨rfl, b5⟩
      have R8 := Lib.hid ((b5.block w2.heap.size Z7.out).trans R7.out)
      have B8 := Lib.hid (B7.out.trans (b5.mono B7.out.size))
      have Z8 := Lib.hid (Nat.lt_of_lt_of_le Z7.out b5.size)
      clear b5 R7 B7 Z7
      go_wp2_with fail
      have hr5 := heap_alloc_new w5 (Obj.cells #[.int .i64 (y + 1), .int .i64 0, .int .i64 1, .int .i64 0, .int .i64 0, .float .f64 s2, .int .i64 wd2, .int .i64 yd2] 37)
      have hs5 := row_alloc3 R8.out (Obj.cells #[.int .i64 (y + 1), .int .i64 0, .int .i64 1, .int .i64 0, .int .i64 0, .float .f64 s2, .int .i64 wd2, .int .i64 yd2] 37)
      have hb5 := B8.out.alloc B8.out.size (Obj.cells #[.int .i64 (y + 1), .int .i64 0, .int .i64 1, .int .i64 0, .int .i64 0, .float .f64 s2, .int .i64 wd2, .int .i64 yd2] 37)
      have hz5 : w5.heap.size < (w5.alloc (Obj.cells #[.int .i64 (y + 1), .int .i64 0, .int .i64 1, .int .i64 0, .int .i64 0, .float .f64 s2, .int .i64 wd2, .int .i64 yd2] 37)).heap.size := by simp
      have hz6 : w2.heap.size < (w5.alloc (Obj.cells #[.int .i64 (y + 1), .int .i64 0, .int .i64 1, .int .i64 0, .int .i64 0, .float .f64 s2, .int .i64 wd2, .int .i64 yd2] 37)).heap.size := by have := Z8.out; simp; omega
      generalize w5.alloc (Obj.cells #[.int .i64 (y + 1), .int .i64 0, .int .i64 1, .int .i64 0, .int .i64 0, .float .f64 s2, .int .i64 wd2, .int .i64 yd2] 37) = X6 at hr5 hs5 hb5 hz5 hz6 ⊢
      have S9 := Lib.hid hr5
      have R9 := Lib.hid hs5
      have B9 := Lib.hid hb5
      have Y9 := Lib.hid hz5
      have Z9 := Lib.hid hz6
      clear hr5 hs5 hb5 hz5 hz6 R8 B8 Z8
      refine (HLn.out _).mono ?_
      rintro e w6 ⟨rfl, b6⟩
      have S10 := Lib.hid ((b6.block w5.heap.size Y9.out).trans S9.out)
      have R10 := Lib.hid ((b6.block w2.heap.size Z9.out).trans R9.out)
      have B10 := Lib.hid (B9.out.trans (b6.mono B9.out.size))
      have Y10 := Lib.hid (Nat.lt_of_lt_of_le Y9.out b6.size)
      have Z10 := Lib.hid (Nat.lt_of_lt_of_le Z9.out b6.size)
      clear b6 S9 R9 B9 Y9 Z9
      go_wp2_with fail
      refine (HWk.out _).mono ?_
      rintro e w7 ⟨rfl, b7⟩
      have S11 := Lib.hid ((b7.block w5.heap.size Y10.out).trans S10.out)
      have R11 := Lib.hid ((b7.block w2.heap.size Z10.out).trans R10.out)
      have B11 := Lib.hid (B10.out.trans (b7.mono B10.out.size))
      have Y11 := Lib.hid (Nat.lt_of_lt_of_le Y10.out b7.size)
      have Z11 := Lib.hid (Nat.lt_of_lt_of_le Z10.out b7.size)
      clear b7 S10 R10 B10 Y10 Z10
      go_wp2_with fail
      refine (HWk2.out _).mono ?_
      rintro e w8 ⟨rfl, b8⟩
      have S12 := Lib.hid ((b8.block w5.heap.size Y11.out).trans S11.out)
      have R12 := Lib.hid ((b8.block w2.heap.size Z11.out).trans R11.out)
      have B12 := Lib.hid (B11.out.trans (b8.mono B11.out.size))
      clear b8 S11 R11 B11 Y11 Z11
      obtain ⟨u0, u1, u2, u3, u4, u5, u6, u7⟩ := row8 R12.out
      obtain ⟨t0, t1, t2, t3, t4, t5, t6, t7⟩ := row8 S12.out
      go_wp2_with fail
      refine (heads_true _).mono ?_
      rintro e w9 ⟨rfl, b9⟩
      have B13 := Lib.hid (B12.out.trans (b9.mono B12.out.size))
      clear b9 B12
      go_wp2_with fail
      go_ret
      exact ⟨rfl, B13.out⟩
  · have f2 : (wd2 != 1) = false := by simp [hw1]
    have f3 : (K == K + 1) = false := by rw [beq_eq_false_iff_ne]; omega
    have f4 : (K + 1 == K + 1) = true := by simp
    clear hw1
    rcases hFa with hFa | hFa
    all_goals
      have HFa := Lib.hid hFa
      clear hFa
      go_enter Try.func8, Try.ntmps8
      go_wp2_with fail
      refine (HDt.out _).mono ?_
      rintro e w1 ⟨rfl, b1⟩
      have B1 := Lib.hid b1
      clear b1
      go_wp2_with fail
      refine (HSp.out _).mono ?_
      rintro e w2 ⟨rfl, b2⟩
      have B2 := Lib.hid (B1.out.trans (b2.mono B1.out.size))
      clear b2 B1
      go_wp2_with fail
      have hr5 := heap_alloc_new w2 (Obj.cells #[.int .i64 y, .int .i64 11, .int .i64 d, .int .i64 0, .int .i64 0, .float .f64 s, .int .i64 wd, .int .i64 yd] 37)
      have hb5 := B2.out.alloc B2.out.size (Obj.cells #[.int .i64 y, .int .i64 11, .int .i64 d, .int .i64 0, .int .i64 0, .float .f64 s, .int .i64 wd, .int .i64 yd] 37)
      have hz5 : w2.heap.size < (w2.alloc (Obj.cells #[.int .i64 y, .int .i64 11, .int .i64 d, .int .i64 0, .int .i64 0, .float .f64 s, .int .i64 wd, .int .i64 yd] 37)).heap.size := by simp
      generalize w2.alloc (Obj.cells #[.int .i64 y, .int .i64 11, .int .i64 d, .int .i64 0, .int .i64 0, .float .f64 s, .int .i64 wd, .int .i64 yd] 37) = X5 at hr5 hb5 hz5 ⊢
      have R5 := Lib.hid hr5
      have B5 := Lib.hid hb5
      have Z5 := Lib.hid hz5
      clear hr5 hb5 hz5
      refine (HFa.out _).mono ?_
      rintro e w3 ⟨rfl, b3⟩
      have R6 := Lib.hid ((b3.block w2.heap.size Z5.out).trans R5.out)
      have B6 := Lib.hid (B5.out.trans (b3.mono B5.out.size))
      have Z6 := Lib.hid (Nat.lt_of_lt_of_le Z5.out b3.size)
      clear b3 R5 B5 Z5
      go_wp2_with fail
      refine (HDt2.out _).mono ?_
      rintro e w4 ⟨rfl, b4⟩
      have R7 := Lib.hid ((b4.block w2.heap.size Z6.out).trans R6.out)
      have B7 := Lib.hid (B6.out.trans (b4.mono B6.out.size))
      have Z7 := Lib.hid (Nat.lt_of_lt_of_le Z6.out b4.size)
      clear b4 R6 B6 Z6
      go_wp2_with fail
      refine (HSp2.out _).mono ?_
      rintro e w5 ⟨rfl, b5⟩
      have R8 := Lib.hid ((b5.block w2.heap.size Z7.out).trans R7.out)
      have B8 := Lib.hid (B7.out.trans (b5.mono B7.out.size))
      have Z8 := Lib.hid (Nat.lt_of_lt_of_le Z7.out b5.size)
      clear b5 R7 B7 Z7
      go_wp2_with fail
      have hr5 := heap_alloc_new w5 (Obj.cells #[.int .i64 (y + 1), .int .i64 0, .int .i64 1, .int .i64 0, .int .i64 0, .float .f64 s2, .int .i64 wd2, .int .i64 yd2] 37)
      have hs5 := row_alloc3 R8.out (Obj.cells #[.int .i64 (y + 1), .int .i64 0, .int .i64 1, .int .i64 0, .int .i64 0, .float .f64 s2, .int .i64 wd2, .int .i64 yd2] 37)
      have hb5 := B8.out.alloc B8.out.size (Obj.cells #[.int .i64 (y + 1), .int .i64 0, .int .i64 1, .int .i64 0, .int .i64 0, .float .f64 s2, .int .i64 wd2, .int .i64 yd2] 37)
      have hz5 : w5.heap.size < (w5.alloc (Obj.cells #[.int .i64 (y + 1), .int .i64 0, .int .i64 1, .int .i64 0, .int .i64 0, .float .f64 s2, .int .i64 wd2, .int .i64 yd2] 37)).heap.size := by simp
      have hz6 : w2.heap.size < (w5.alloc (Obj.cells #[.int .i64 (y + 1), .int .i64 0, .int .i64 1, .int .i64 0, .int .i64 0, .float .f64 s2, .int .i64 wd2, .int .i64 yd2] 37)).heap.size := by have := Z8.out; simp; omega
      generalize w5.alloc (Obj.cells #[.int .i64 (y + 1), .int .i64 0, .int .i64 1, .int .i64 0, .int .i64 0, .float .f64 s2, .int .i64 wd2, .int .i64 yd2] 37) = X6 at hr5 hs5 hb5 hz5 hz6 ⊢
      have S9 := Lib.hid hr5
      have R9 := Lib.hid hs5
      have B9 := Lib.hid hb5
      have Y9 := Lib.hid hz5
      have Z9 := Lib.hid hz6
      clear hr5 hs5 hb5 hz5 hz6 R8 B8 Z8
      refine (HLn.out _).mono ?_
      rintro e w6 ⟨rfl, b6⟩
      have S10 := Lib.hid ((b6.block w5.heap.size Y9.out).trans S9.out)
      have R10 := Lib.hid ((b6.block w2.heap.size Z9.out).trans R9.out)
      have B10 := Lib.hid (B9.out.trans (b6.mono B9.out.size))
      have Y10 := Lib.hid (Nat.lt_of_lt_of_le Y9.out b6.size)
      have Z10 := Lib.hid (Nat.lt_of_lt_of_le Z9.out b6.size)
      clear b6 S9 R9 B9 Y9 Z9
      go_wp2_with fail
      refine (HWk.out _).mono ?_
      rintro e w7 ⟨rfl, b7⟩
      have S11 := Lib.hid ((b7.block w5.heap.size Y10.out).trans S10.out)
      have R11 := Lib.hid ((b7.block w2.heap.size Z10.out).trans R10.out)
      have B11 := Lib.hid (B10.out.trans (b7.mono B10.out.size))
      have Y11 := Lib.hid (Nat.lt_of_lt_of_le Y10.out b7.size)
      have Z11 := Lib.hid (Nat.lt_of_lt_of_le Z10.out b7.size)
      clear b7 S10 R10 B10 Y10 Z10
      go_wp2_with fail
      refine (HWk2.out _).mono ?_
      rintro e w8 ⟨rfl, b8⟩
      have S12 := Lib.hid ((b8.block w5.heap.size Y11.out).trans S11.out)
      have R12 := Lib.hid ((b8.block w2.heap.size Z11.out).trans R11.out)
      have B12 := Lib.hid (B11.out.trans (b8.mono B11.out.size))
      clear b8 S11 R11 B11 Y11 Z11
      obtain ⟨u0, u1, u2, u3, u4, u5, u6, u7⟩ := row8 R12.out
      obtain ⟨t0, t1, t2, t3, t4, t5, t6, t7⟩ := row8 S12.out
      go_wp2_with fail
      refine (heads_true _).mono ?_
      rintro e w9 ⟨rfl, b9⟩
      have B13 := Lib.hid (B12.out.trans (b9.mono B12.out.size))
      clear b9 B12
      go_wp2_with fail
      go_ret
      exact ⟨rfl, B13.out⟩
  · have f2 : (wd2 != 1) = false := by simp [hw1]
    have f3 : (I == I + 1) = false := by rw [beq_eq_false_iff_ne]; omega
    have f4 : (I + 1 == I) = false := by rw [beq_eq_false_iff_ne]; omega
    have f5 : (I + 1 == I + 1) = true := by simp
    clear hw1
    rcases hFa with hFa | hFa
    all_goals
      have HFa := Lib.hid hFa
      clear hFa
      go_enter Try.func8, Try.ntmps8
      go_wp2_with fail
      refine (HDt.out _).mono ?_
      rintro e w1 ⟨rfl, b1⟩
      have B1 := Lib.hid b1
      clear b1
      go_wp2_with fail
      refine (HSp.out _).mono ?_
      rintro e w2 ⟨rfl, b2⟩
      have B2 := Lib.hid (B1.out.trans (b2.mono B1.out.size))
      clear b2 B1
      go_wp2_with fail
      have hr5 := heap_alloc_new w2 (Obj.cells #[.int .i64 y, .int .i64 11, .int .i64 d, .int .i64 0, .int .i64 0, .float .f64 s, .int .i64 wd, .int .i64 yd] 37)
      have hb5 := B2.out.alloc B2.out.size (Obj.cells #[.int .i64 y, .int .i64 11, .int .i64 d, .int .i64 0, .int .i64 0, .float .f64 s, .int .i64 wd, .int .i64 yd] 37)
      have hz5 : w2.heap.size < (w2.alloc (Obj.cells #[.int .i64 y, .int .i64 11, .int .i64 d, .int .i64 0, .int .i64 0, .float .f64 s, .int .i64 wd, .int .i64 yd] 37)).heap.size := by simp
      generalize w2.alloc (Obj.cells #[.int .i64 y, .int .i64 11, .int .i64 d, .int .i64 0, .int .i64 0, .float .f64 s, .int .i64 wd, .int .i64 yd] 37) = X5 at hr5 hb5 hz5 ⊢
      have R5 := Lib.hid hr5
      have B5 := Lib.hid hb5
      have Z5 := Lib.hid hz5
      clear hr5 hb5 hz5
      refine (HFa.out _).mono ?_
      rintro e w3 ⟨rfl, b3⟩
      have R6 := Lib.hid ((b3.block w2.heap.size Z5.out).trans R5.out)
      have B6 := Lib.hid (B5.out.trans (b3.mono B5.out.size))
      have Z6 := Lib.hid (Nat.lt_of_lt_of_le Z5.out b3.size)
      clear b3 R5 B5 Z5
      go_wp2_with fail
      refine (HDt2.out _).mono ?_
      rintro e w4 ⟨rfl, b4⟩
      have R7 := Lib.hid ((b4.block w2.heap.size Z6.out).trans R6.out)
      have B7 := Lib.hid (B6.out.trans (b4.mono B6.out.size))
      have Z7 := Lib.hid (Nat.lt_of_lt_of_le Z6.out b4.size)
      clear b4 R6 B6 Z6
      go_wp2_with fail
      refine (HSp2.out _).mono ?_
      rintro e w5 ⟨rfl, b5⟩
      have R8 := Lib.hid ((b5.block w2.heap.size Z7.out).trans R7.out)
      have B8 := Lib.hid (B7.out.trans (b5.mono B7.out.size))
      have Z8 := Lib.hid (Nat.lt_of_lt_of_le Z7.out b5.size)
      clear b5 R7 B7 Z7
      go_wp2_with fail
      have hr5 := heap_alloc_new w5 (Obj.cells #[.int .i64 (y + 1), .int .i64 0, .int .i64 1, .int .i64 0, .int .i64 0, .float .f64 s2, .int .i64 wd2, .int .i64 yd2] 37)
      have hs5 := row_alloc3 R8.out (Obj.cells #[.int .i64 (y + 1), .int .i64 0, .int .i64 1, .int .i64 0, .int .i64 0, .float .f64 s2, .int .i64 wd2, .int .i64 yd2] 37)
      have hb5 := B8.out.alloc B8.out.size (Obj.cells #[.int .i64 (y + 1), .int .i64 0, .int .i64 1, .int .i64 0, .int .i64 0, .float .f64 s2, .int .i64 wd2, .int .i64 yd2] 37)
      have hz5 : w5.heap.size < (w5.alloc (Obj.cells #[.int .i64 (y + 1), .int .i64 0, .int .i64 1, .int .i64 0, .int .i64 0, .float .f64 s2, .int .i64 wd2, .int .i64 yd2] 37)).heap.size := by simp
      have hz6 : w2.heap.size < (w5.alloc (Obj.cells #[.int .i64 (y + 1), .int .i64 0, .int .i64 1, .int .i64 0, .int .i64 0, .float .f64 s2, .int .i64 wd2, .int .i64 yd2] 37)).heap.size := by have := Z8.out; simp; omega
      generalize w5.alloc (Obj.cells #[.int .i64 (y + 1), .int .i64 0, .int .i64 1, .int .i64 0, .int .i64 0, .float .f64 s2, .int .i64 wd2, .int .i64 yd2] 37) = X6 at hr5 hs5 hb5 hz5 hz6 ⊢
      have S9 := Lib.hid hr5
      have R9 := Lib.hid hs5
      have B9 := Lib.hid hb5
      have Y9 := Lib.hid hz5
      have Z9 := Lib.hid hz6
      clear hr5 hs5 hb5 hz5 hz6 R8 B8 Z8
      refine (HLn.out _).mono ?_
      rintro e w6 ⟨rfl, b6⟩
      have S10 := Lib.hid ((b6.block w5.heap.size Y9.out).trans S9.out)
      have R10 := Lib.hid ((b6.block w2.heap.size Z9.out).trans R9.out)
      have B10 := Lib.hid (B9.out.trans (b6.mono B9.out.size))
      have Y10 := Lib.hid (Nat.lt_of_lt_of_le Y9.out b6.size)
      have Z10 := Lib.hid (Nat.lt_of_lt_of_le Z9.out b6.size)
      clear b6 S9 R9 B9 Y9 Z9
      go_wp2_with fail
      refine (HWk.out _).mono ?_
      rintro e w7 ⟨rfl, b7⟩
      have S11 := Lib.hid ((b7.block w5.heap.size Y10.out).trans S10.out)
      have R11 := Lib.hid ((b7.block w2.heap.size Z10.out).trans R10.out)
      have B11 := Lib.hid (B10.out.trans (b7.mono B10.out.size))
      have Y11 := Lib.hid (Nat.lt_of_lt_of_le Y10.out b7.size)
      have Z11 := Lib.hid (Nat.lt_of_lt_of_le Z10.out b7.size)
      clear b7 S10 R10 B10 Y10 Z10
      go_wp2_with fail
      refine (HWk2.out _).mono ?_
      rintro e w8 ⟨rfl, b8⟩
      have S12 := Lib.hid ((b8.block w5.heap.size Y11.out).trans S11.out)
      have R12 := Lib.hid ((b8.block w2.heap.size Z11.out).trans R11.out)
      have B12 := Lib.hid (B11.out.trans (b8.mono B11.out.size))
      clear b8 S11 R11 B11 Y11 Z11
      obtain ⟨u0, u1, u2, u3, u4, u5, u6, u7⟩ := row8 R12.out
      obtain ⟨t0, t1, t2, t3, t4, t5, t6, t7⟩ := row8 S12.out
      go_wp2_with fail
      refine (heads_true _).mono ?_
      rintro e w9 ⟨rfl, b9⟩
      have B13 := Lib.hid (B12.out.trans (b9.mono B12.out.size))
      clear b9 B12
      go_wp2_with fail
      go_ret
      exact ⟨rfl, B13.out⟩
end Go.Proofs.Ytimipkbingbifaa
