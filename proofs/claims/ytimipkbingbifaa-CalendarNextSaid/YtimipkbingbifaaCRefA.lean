/- The document's calendar: leap years, months' lengths, quotients downwards. -/
import Derived.Test.YtimipkbingbifaaProg
import Derived.WalkKit
import Derived.WalkLawsBesides
import Derived.Lib.Hide
import Derived.Deep.QuietTactic
import Derived.BigQuiet
import Derived.Test.YtimipkbingbifaaCPlain
namespace Go.Proofs.Ytimipkbingbifaa
open Go Go.RowKit

theorem tmod_zero (y k : Int) : (y.tmod k == 0) = decide (y % k = 0) := by
  rw [Bool.eq_iff_iff, beq_iff_eq, decide_eq_true_iff, ← Int.dvd_iff_tmod_eq_zero, ← Int.dvd_iff_emod_eq_zero]
theorem leapB_t (y : Int) : leapB y = ((y.tmod 4 == 0) && ((y.tmod 100 != 0) || (y.tmod 400 == 0))) := by
  unfold leapB bne
  rw [tmod_zero, tmod_zero, tmod_zero]
set_option maxHeartbeats 400000 in
theorem refLeap_any (y : Int) (_hy1 : -9223372036854775808 ≤ y) (_hy2 : y ≤ 9223372036854775807) (w : World) : Calls Try.prog 14 #[.int .i64 y] w fun e w' => e = .returned (.bool (leapB y)) ∧ w = w' := by
  rw [leapB_t]
  go_enter Try.func14, Try.ntmps14
  go_wp2_with fail
  all_goals (go_ret; exact ⟨by simp [*], rfl⟩)
theorem ret_int {k : IntKind} {a b : Int} (h : a = b) : Ending.returned (.int k a) = .returned (.int k b) := by rw [h]
set_option maxHeartbeats 1000000 in
theorem refLength_any (y m : Int) (hy1 : -9223372036854775808 ≤ y) (hy2 : y ≤ 9223372036854775807) (w : World) : Calls Try.prog 16 #[.int .i64 y, .int .i64 m] w fun e w' => e = .returned (.int .i64 (lenI y m)) ∧ w = w' := by
  by_cases hm : 0 ≤ m ∧ m ≤ 11
  · rcases month_cases m hm.1 hm.2 with h | h | h | h | h | h | h | h | h | h | h | h <;> subst h <;> clear hm
    all_goals
      go_enter Try.func16, Try.ntmps16
      go_wp2_with (go_at_call 14; refine (refLeap_any y hy1 hy2 _).mono ?_; rintro e w' ⟨rfl, rfl⟩)
      all_goals (go_ret; exact ⟨by simp [lenI, *], rfl⟩)
  · have e := lenI_no y m (by omega)
    rw [e]
    have h0 : (m == 0) = false := by rw [beq_eq_false_iff_ne]; omega
    have h1 : (m == 1) = false := by rw [beq_eq_false_iff_ne]; omega
    have h2 : (m == 2) = false := by rw [beq_eq_false_iff_ne]; omega
    have h3 : (m == 3) = false := by rw [beq_eq_false_iff_ne]; omega
    have h4 : (m == 4) = false := by rw [beq_eq_false_iff_ne]; omega
    have h5 : (m == 5) = false := by rw [beq_eq_false_iff_ne]; omega
    have h6 : (m == 6) = false := by rw [beq_eq_false_iff_ne]; omega
    have h7 : (m == 7) = false := by rw [beq_eq_false_iff_ne]; omega
    have h8 : (m == 8) = false := by rw [beq_eq_false_iff_ne]; omega
    have h9 : (m == 9) = false := by rw [beq_eq_false_iff_ne]; omega
    have h10 : (m == 10) = false := by rw [beq_eq_false_iff_ne]; omega
    have h11 : (m == 11) = false := by rw [beq_eq_false_iff_ne]; omega
    clear e hm
    go_enter Try.func16, Try.ntmps16
    go_wp2_with fail
    go_ret
    exact ⟨rfl, rfl⟩
theorem refyear_any (y : Int) (hy1 : -9223372036854775808 ≤ y) (hy2 : y ≤ 9223372036854775807) (w : World) : Calls Try.prog 32 #[.int .i64 y] w fun e w' => e = .returned (.int .i64 (yearI y)) ∧ w = w' := by
  unfold yearI
  go_enter Try.func32, Try.ntmps32
  go_wp2_with (go_at_call 14; refine (refLeap_any y hy1 hy2 _).mono ?_; rintro e w' ⟨rfl, rfl⟩)
  all_goals (go_ret; exact ⟨by simp [*], rfl⟩)
/-- A quotient downwards and the rest. -/
theorem floor_parts (n k : Int) (hk : 0 < k) : (n.tmod k < 0 → n.tdiv k - 1 = n / k ∧ n.tmod k + k = n % k) ∧ (0 ≤ n.tmod k → n.tdiv k = n / k ∧ n.tmod k = n % k) := by
  have h1 := Int.tmod_add_mul_tdiv n k
  have h2 := Int.emod_nonneg n (by omega : k ≠ 0)
  have h3 := Int.emod_lt_of_pos n hk
  have h4 := Int.emod_add_mul_ediv n k
  have h5 : -k < n.tmod k := by
    have := Int.tmod_lt_of_pos (-n) hk
    rw [Int.neg_tmod] at this
    omega
  have h6 := Int.tmod_lt_of_pos n hk
  constructor
  · intro h
    have e := (Int.ediv_emod_unique hk (a := n) (r := n.tmod k + k) (q := n.tdiv k - 1)).2 ⟨by rw [Int.mul_sub]; omega, by omega, by omega⟩
    exact ⟨e.1.symm, e.2.symm⟩
  · intro h
    have e := (Int.ediv_emod_unique hk (a := n) (r := n.tmod k) (q := n.tdiv k)).2 ⟨by omega, h, h6⟩
    exact ⟨e.1.symm, e.2.symm⟩
theorem tdiv_bd (n k b : Int) (_hk : 0 < k) (h1 : -b ≤ n) (h2 : n ≤ b) (h3 : 0 ≤ b) : -b ≤ n.tdiv k ∧ n.tdiv k ≤ b := by
  have h : (n.tdiv k).natAbs = n.natAbs / k.natAbs := Int.natAbs_tdiv n k
  have h4 : (n.tdiv k).natAbs ≤ n.natAbs := by rw [h]; exact Nat.div_le_self _ _
  clear h
  omega
set_option maxHeartbeats 400000 in
theorem reffloor_any (n k : Int) (hk : 0 < k) (hk2 : k ≤ 1000000) (h1 : -9000000000000000000 ≤ n) (h2 : n ≤ 9000000000000000000) (w : World) : Calls Try.prog 31 #[.int .i64 n, .int .i64 k] w fun e w' => e = .returned (.tuple #[.int .i64 (n / k), .int .i64 (n % k)]) ∧ ∃ m, w' = w.drewN m := by
  have hp := floor_parts n k hk
  have hb := tdiv_bd n k 9000000000000000000 hk h1 h2 (by omega)
  have hm1 : n.tmod k < k := Int.tmod_lt_of_pos n hk
  have hm2 : -k < n.tmod k := by
    have := Int.tmod_lt_of_pos (-n) hk
    rw [Int.neg_tmod] at this
    omega
  obtain ⟨hb1, hb2⟩ := hb
  by_cases hneg : n.tmod k < 0
  · obtain ⟨e1, e2⟩ := hp.1 hneg
    rw [← e1, ← e2]
    clear e1 e2 hp
    go_enter Try.func31, Try.ntmps31
    go_wp2_with fail
    go_quiet (fail)
    go_wp2_with fail
    go_ret2
    exact ⟨rfl, _, rfl⟩
  · obtain ⟨e1, e2⟩ := hp.2 (by omega)
    rw [← e1, ← e2]
    clear e1 e2 hp
    go_enter Try.func31, Try.ntmps31
    go_wp2_with fail
    go_quiet (fail)
    go_wp2_with fail
    go_ret2
    exact ⟨rfl, _, rfl⟩
theorem reffloor_at (n k q r : Int) (hq : n / k = q) (hr : n % k = r) (hk : 0 < k) (hk2 : k ≤ 1000000) (h1 : -9000000000000000000 ≤ n) (h2 : n ≤ 9000000000000000000) (w : World) : Calls Try.prog 31 #[.int .i64 n, .int .i64 k] w fun e w' => e = .returned (.tuple #[.int .i64 q, .int .i64 r]) ∧ ∃ m, w' = w.drewN m := by
  subst hq; subst hr
  exact reffloor_any n k hk hk2 h1 h2 w
end Go.Proofs.Ytimipkbingbifaa
