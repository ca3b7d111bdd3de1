/- CalendarDays and CalendarWeeks: their walks. -/
import Derived.Test.YtimipkbingbifaaCHeadsW
namespace Go.Proofs.Ytimipkbingbifaa
open Go Go.RowKit

theorem lift_drew {w w1 : World} (n : Nat) (h : w1 = w.drewN n) : Below w.heap.size w w1 := h ▸ below_drewN (Below.refl _ _) n
theorem lift_same {w w1 : World} (h : w = w1) : Below w.heap.size w w1 := h ▸ Below.refl _ _
/-- The document's answers, in the form that a law takes. -/
theorem rDay_yes (y m d : Int) (h : OkD y m d) (w : World) : Calls Try.prog 10 #[.int .i64 y, .int .i64 m, .int .i64 d] w fun e w' => e = .returned (.tuple #[.int .i64 (numI y m d), .int .i64 0]) ∧ Below w.heap.size w w' :=
  (refDay_yes y m d h w).mono fun _ _ ⟨a, n, b⟩ => ⟨a, lift_drew n b⟩
theorem rDay_no (y m d : Int) (h1 : -9223372036854775808 ≤ y) (h2 : y ≤ 9223372036854775807) (h : ¬ OkD y m d) (w : World) : Calls Try.prog 10 #[.int .i64 y, .int .i64 m, .int .i64 d] w fun e w' => e = .returned (.tuple #[.int .i64 0, .int .i64 110]) ∧ Below w.heap.size w w' :=
  (refDay_no y m d h1 h2 h w).mono fun _ _ ⟨a, b⟩ => ⟨a, lift_same b⟩
theorem rDate_of (y m d : Int) (h : OkD y m d) (w : World) : Calls Try.prog 12 #[.int .i64 (numI y m d)] w fun e w' => e = .returned (.tuple #[.int .i64 y, .int .i64 m, .int .i64 d, .int .i64 0]) ∧ Below w.heap.size w w' :=
  (refDate_of y m d h w).mono fun _ _ ⟨a, n, b⟩ => ⟨a, lift_drew n b⟩
theorem rDate_no (n : Int) (h : n < -4371587 ∨ 2932896 < n) (w : World) : Calls Try.prog 12 #[.int .i64 n] w fun e w' => e = .returned (.tuple #[.int .i64 0, .int .i64 0, .int .i64 0, .int .i64 110]) ∧ Below w.heap.size w w' :=
  (refDate_no n h w).mono fun _ _ ⟨a, b⟩ => ⟨a, lift_same b⟩
theorem rLeap (y : Int) (h1 : -9223372036854775808 ≤ y) (h2 : y ≤ 9223372036854775807) (w : World) : Calls Try.prog 14 #[.int .i64 y] w fun e w' => e = .returned (.bool (leapB y)) ∧ Below w.heap.size w w' :=
  (refLeap_any y h1 h2 w).mono fun _ _ ⟨a, b⟩ => ⟨a, lift_same b⟩
theorem rLength (y m : Int) (h1 : -9223372036854775808 ≤ y) (h2 : y ≤ 9223372036854775807) (w : World) : Calls Try.prog 16 #[.int .i64 y, .int .i64 m] w fun e w' => e = .returned (.int .i64 (lenI y m)) ∧ Below w.heap.size w w' :=
  (refLength_any y m h1 h2 w).mono fun _ _ ⟨a, b⟩ => ⟨a, lift_same b⟩
theorem rWeeks_of (y m d : Int) (h : OkD y m d) (w : World) : Calls Try.prog 23 #[.int .i64 (numI y m d)] w fun e w' => e = .returned (.tuple #[.int .i64 (isoI (numI y m d) y), .int .i64 (weekI (numI y m d) (isoI (numI y m d) y)), .int .i64 (sunI (numI y m d) y), .int .i64 (monI (numI y m d) y), .int .i64 0]) ∧ Below w.heap.size w w' :=
  (refWeeks_of y m d h w).mono fun _ _ ⟨a, n, b⟩ => ⟨a, lift_drew n b⟩
theorem rWeeks_no (n : Int) (h : n < -4371587 ∨ 2932896 < n) (w : World) : Calls Try.prog 23 #[.int .i64 n] w fun e w' => e = .returned (.tuple #[.int .i64 0, .int .i64 0, .int .i64 0, .int .i64 0, .int .i64 110]) ∧ Below w.heap.size w w' :=
  (refWeeks_no n h w).mono fun _ _ ⟨a, b⟩ => ⟨a, lift_same b⟩

/-- What Day answers, by numbers. -/
theorem both_Day (y m d : Int) (h1 : -9223372036854775808 ≤ y) (h2 : y ≤ 9223372036854775807) : ∃ a e : Int, (∀ w, Calls Try.prog 9 #[.int .i64 y, .int .i64 m, .int .i64 d] w fun x w' => x = .returned (.tuple #[.int .i64 a, .int .i64 e]) ∧ Below w.heap.size w w') ∧
    (∀ w, Calls Try.prog 10 #[.int .i64 y, .int .i64 m, .int .i64 d] w fun x w' => x = .returned (.tuple #[.int .i64 a, .int .i64 e]) ∧ Below w.heap.size w w') := by
  by_cases h : OkD y m d
  · exact ⟨_, _, Day_yes y m d h, rDay_yes y m d h⟩
  · exact ⟨_, _, Day_no y m d h1 h2 h, rDay_no y m d h1 h2 h⟩
theorem both_Date (n : Int) : ∃ a b c e : Int, (∀ w, Calls Try.prog 11 #[.int .i64 n] w fun x w' => x = .returned (.tuple #[.int .i64 a, .int .i64 b, .int .i64 c, .int .i64 e]) ∧ Below w.heap.size w w') ∧
    (∀ w, Calls Try.prog 12 #[.int .i64 n] w fun x w' => x = .returned (.tuple #[.int .i64 a, .int .i64 b, .int .i64 c, .int .i64 e]) ∧ Below w.heap.size w w') := by
  by_cases h : n < -4371587 ∨ 2932896 < n
  · exact ⟨_, _, _, _, Date_no n h, rDate_no n h⟩
  · obtain ⟨y, m, d, hD, rfl⟩ := num_ex n (by omega) (by omega)
    exact ⟨_, _, _, _, Date_of y m d hD, rDate_of y m d hD⟩
theorem both_Weeks (n : Int) : ∃ a b c d e : Int, (∀ w, Calls Try.prog 22 #[.int .i64 n] w fun x w' => x = .returned (.tuple #[.int .i64 a, .int .i64 b, .int .i64 c, .int .i64 d, .int .i64 e]) ∧ Below w.heap.size w w') ∧
    (∀ w, Calls Try.prog 23 #[.int .i64 n] w fun x w' => x = .returned (.tuple #[.int .i64 a, .int .i64 b, .int .i64 c, .int .i64 d, .int .i64 e]) ∧ Below w.heap.size w w') := by
  by_cases h : n < -4371587 ∨ 2932896 < n
  · exact ⟨_, _, _, _, _, Weeks_no n h, rWeeks_no n h⟩
  · obtain ⟨y, m, d, hD, rfl⟩ := num_ex n (by omega) (by omega)
    exact ⟨_, _, _, _, _, Weeks_of y m d hD, rWeeks_of y m d hD⟩
set_option maxRecDepth 100000 in
set_option maxHeartbeats 2000000 in
theorem days_true (y m d n : Int) (h1 : -9223372036854775808 ≤ y) (h2 : y ≤ 9223372036854775807) (w : World) : Calls Try.prog 3 #[.int .i64 y, .int .i64 m, .int .i64 d, .int .i64 n] w fun e w' => e = .returned (.bool true) ∧ Below w.heap.size w w' := by
  obtain ⟨a, f, p1, q1⟩ := both_Day y m d h1 h2
  obtain ⟨c, g, i, j, p2, q2⟩ := both_Date n
  have P1 := Lib.hid p1
  have Q1 := Lib.hid q1
  have P2 := Lib.hid p2
  have Q2 := Lib.hid q2
  clear p1 q1 p2 q2
  have el : (leapB y == leapB y) = true := by simp
  have em : (lenI y m == lenI y m) = true := by simp
  have e1 : (a == a) = true := by simp
  have e2 : (f == f) = true := by simp
  have e3 : (c == c) = true := by simp
  have e4 : (g == g) = true := by simp
  have e5 : (i == i) = true := by simp
  have e6 : (j == j) = true := by simp
  go_enter Try.func3, Try.ntmps3
  go_wp2_with fail
  refine (P1.out _).mono ?_
  rintro e w1 ⟨rfl, b1⟩
  have B1 := Lib.hid b1
  clear b1
  go_wp2_with fail
  refine (Q1.out _).mono ?_
  rintro e w2 ⟨rfl, b2⟩
  have B2 := Lib.hid (B1.out.trans (b2.mono B1.out.size))
  clear b2 B1
  go_wp2_with fail
  refine (P2.out _).mono ?_
  rintro e w3 ⟨rfl, b3⟩
  have B3 := Lib.hid (B2.out.trans (b3.mono B2.out.size))
  clear b3 B2
  go_wp2_with fail
  refine (Q2.out _).mono ?_
  rintro e w4 ⟨rfl, b4⟩
  have B4 := Lib.hid (B3.out.trans (b4.mono B3.out.size))
  clear b4 B3
  go_wp2_with fail
  refine (Leap_ok y h1 h2 _).mono ?_
  rintro e w5 ⟨rfl, b5⟩
  have B5 := Lib.hid (B4.out.trans (b5.mono B4.out.size))
  clear b5 B4
  go_wp2_with fail
  refine (rLeap y h1 h2 _).mono ?_
  rintro e w6 ⟨rfl, b6⟩
  have B6 := Lib.hid (B5.out.trans (b6.mono B5.out.size))
  clear b6 B5
  go_wp2_with fail
  refine (Length_ok y m h1 h2 _).mono ?_
  rintro e w7 ⟨rfl, b7⟩
  have B7 := Lib.hid (B6.out.trans (b7.mono B6.out.size))
  clear b7 B6
  go_wp2_with fail
  refine (rLength y m h1 h2 _).mono ?_
  rintro e w8 ⟨rfl, b8⟩
  have B8 := Lib.hid (B7.out.trans (b8.mono B7.out.size))
  clear b8 B7
  go_wp2_with fail
  refine (heads_true _).mono ?_
  rintro e w9 ⟨rfl, b9⟩
  have B9 := Lib.hid (B8.out.trans (b9.mono B8.out.size))
  clear b9 B8
  go_wp2_with fail
  go_ret
  exact ⟨rfl, B9.out⟩
set_option maxRecDepth 100000 in
set_option maxHeartbeats 2000000 in
theorem weeks_true (n : Int) (w : World) : Calls Try.prog 6 #[.int .i64 n] w fun e w' => e = .returned (.bool true) ∧ Below w.heap.size w w' := by
  obtain ⟨a, b, c, d, f, p1, q1⟩ := both_Weeks n
  have P1 := Lib.hid p1
  have Q1 := Lib.hid q1
  clear p1 q1
  have e1 : (a == a) = true := by simp
  have e2 : (b == b) = true := by simp
  have e3 : (c == c) = true := by simp
  have e4 : (d == d) = true := by simp
  have e5 : (f == f) = true := by simp
  go_enter Try.func6, Try.ntmps6
  go_wp2_with fail
  refine (P1.out _).mono ?_
  rintro e w1 ⟨rfl, b1⟩
  have B1 := Lib.hid b1
  clear b1
  go_wp2_with fail
  refine (Q1.out _).mono ?_
  rintro e w2 ⟨rfl, b2⟩
  have B2 := Lib.hid (B1.out.trans (b2.mono B1.out.size))
  clear b2 B1
  go_wp2_with fail
  refine (heads_true _).mono ?_
  rintro e w3 ⟨rfl, b3⟩
  have B3 := Lib.hid (B2.out.trans (b3.mono B2.out.size))
  clear b3 B2
  go_wp2_with fail
  go_ret
  exact ⟨rfl, B3.out⟩
end Go.Proofs.Ytimipkbingbifaa
