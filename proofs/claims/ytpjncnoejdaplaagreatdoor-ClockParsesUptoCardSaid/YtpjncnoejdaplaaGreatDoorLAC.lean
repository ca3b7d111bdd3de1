/- The Gregorian calendar, plain: leap years, months, numbers of days; a day's number has one date, and every number in the range has one. -/
import Derived.Test.YtpjncnoejdaplaaGreatDoorProg
import Derived.WalkKit
import Derived.WalkLawsBesides
import Derived.Lib.Hide
import Derived.Deep.QuietTactic
import Derived.BigQuiet
namespace Go.Proofs.YtpjncnoejdaplaaGreatDoor

def leapB (y : Int) : Bool := decide (y % 4 = 0) && (!decide (y % 100 = 0) || decide (y % 400 = 0))
def yearI (y : Int) : Int := if leapB y = true then 366 else 365
/-- the days of all years from 0 on that are ahead of a year -/
def dby (y : Int) : Int := 365 * y + (y + 3) / 4 - (y + 99) / 100 + (y + 399) / 400
theorem leapB_iff (y : Int) : leapB y = true ↔ y % 4 = 0 ∧ (y % 100 ≠ 0 ∨ y % 400 = 0) := by
  unfold leapB
  simp
theorem yearI_two (y : Int) : yearI y = 366 ∨ yearI y = 365 := by
  unfold yearI; split
  · exact .inl rfl
  · exact .inr rfl
theorem dby_succ (y : Int) : dby (y + 1) = dby y + yearI y := by
  unfold dby yearI
  by_cases h : leapB y = true
  · rw [if_pos h]; rw [leapB_iff] at h; omega
  · rw [if_neg h]; rw [leapB_iff] at h; omega
theorem dby_cycle (c r : Int) : dby (400 * c + r) = 146097 * c + dby r := by
  unfold dby; omega
theorem leap_cycle (c r : Int) : leapB (400 * c + r) = leapB r := by
  rw [Bool.eq_iff_iff, leapB_iff, leapB_iff]; omega
theorem dby_up (y : Int) (k : Nat) : dby y + 365 * k ≤ dby (y + k) := by
  induction k with
  | zero => simp
  | succ k ih =>
    have h := dby_succ (y + k)
    have h2 := yearI_two (y + k)
    have e : y + ((k + 1 : Nat) : Int) = y + k + 1 := by omega
    rw [e]; omega
theorem dby_mono (a b : Int) (h : a ≤ b) : dby a + 365 * (b - a) ≤ dby b := by
  have e := dby_up a (b - a).toNat
  have e2 : a + (((b - a).toNat : Nat) : Int) = b := by omega
  rw [e2] at e; omega
theorem year_ex (N a : Int) (k : Nat) (h1 : dby a ≤ N) (h2 : N < dby (a + k)) : ∃ y, a ≤ y ∧ y < a + k ∧ dby y ≤ N ∧ N < dby (y + 1) := by
  induction k with
  | zero => simp at h2; omega
  | succ k ih =>
    by_cases h : N < dby (a + k)
    · obtain ⟨y, h3, h4, h5, h6⟩ := ih h; exact ⟨y, h3, by omega, h5, h6⟩
    · refine ⟨a + k, by omega, by omega, by omega, ?_⟩
      have e : a + ((k + 1 : Nat) : Int) = a + k + 1 := by omega
      rw [e] at h2; exact h2

def lenI (y m : Int) : Int := if m = 1 then (if leapB y = true then 29 else 28) else if m = 3 ∨ m = 5 ∨ m = 8 ∨ m = 10 then 30 else if 0 ≤ m ∧ m ≤ 11 then 31 else 0
def baseI (m : Int) : Int := if m = 1 then 31 else if m = 2 then 59 else if m = 3 then 90 else if m = 4 then 120 else if m = 5 then 151 else if m = 6 then 181 else if m = 7 then 212 else if m = 8 then 243 else if m = 9 then 273 else if m = 10 then 304 else if m = 11 then 334 else if m = 12 then 365 else 0
/-- the days of a year that are ahead of a month -/
def cumI (y m : Int) : Int := baseI m + if 2 ≤ m ∧ leapB y = true then 1 else 0
theorem month_cases (m : Int) (h0 : 0 ≤ m) (h1 : m ≤ 11) : m = 0 ∨ m = 1 ∨ m = 2 ∨ m = 3 ∨ m = 4 ∨ m = 5 ∨ m = 6 ∨ m = 7 ∨ m = 8 ∨ m = 9 ∨ m = 10 ∨ m = 11 := by omega
theorem cumI_zero (y : Int) : cumI y 0 = 0 := by simp [cumI, baseI]
theorem cumI_succ (y m : Int) (h0 : 0 ≤ m) (h1 : m ≤ 11) : cumI y (m + 1) = cumI y m + lenI y m := by
  rcases month_cases m h0 h1 with h | h | h | h | h | h | h | h | h | h | h | h <;> subst h <;> by_cases hl : leapB y = true <;> simp [cumI, baseI, lenI, hl]
theorem cumI_12 (y : Int) : cumI y 12 = yearI y := by
  by_cases hl : leapB y = true <;> simp [cumI, baseI, yearI, hl]
theorem lenI_bd (y m : Int) (h0 : 0 ≤ m) (h1 : m ≤ 11) : 28 ≤ lenI y m ∧ lenI y m ≤ 31 := by
  rcases month_cases m h0 h1 with h | h | h | h | h | h | h | h | h | h | h | h <;> subst h <;> by_cases hl : leapB y = true <;> simp [lenI, hl]
theorem lenI_no (y m : Int) (h : m < 0 ∨ 11 < m) : lenI y m = 0 := by
  unfold lenI; rw [if_neg (by omega), if_neg (by omega), if_neg (by omega)]
theorem cumI_bd (y m : Int) (h0 : 0 ≤ m) (h1 : m ≤ 11) : 0 ≤ cumI y m ∧ cumI y m + lenI y m ≤ yearI y ∧ 28 * m ≤ cumI y m := by
  rcases month_cases m h0 h1 with h | h | h | h | h | h | h | h | h | h | h | h <;> subst h <;> by_cases hl : leapB y = true <;> simp [cumI, baseI, lenI, yearI, hl]
theorem cumI_mono (y a b : Int) (h0 : 0 ≤ a) (h : a < b) (h1 : b ≤ 11) : cumI y a + lenI y a ≤ cumI y b := by
  rw [← cumI_succ y a h0 (by omega)]
  have step : ∀ k : Nat, a + 1 + k ≤ 11 → cumI y (a + 1) ≤ cumI y (a + 1 + k) := by
    intro k
    induction k with
    | zero => intro _; simp
    | succ k ih =>
      intro hk
      have h2 := ih (by omega)
      have h3 := cumI_succ y (a + 1 + k) (by omega) (by omega)
      have h4 := lenI_bd y (a + 1 + k) (by omega) (by omega)
      have e : a + 1 + ((k + 1 : Nat) : Int) = a + 1 + k + 1 := by omega
      rw [e]; omega
  have h5 := step (b - (a + 1)).toNat (by omega)
  have e : a + 1 + (((b - (a + 1)).toNat : Nat) : Int) = b := by omega
  rw [e] at h5; exact h5
theorem month_ex (y r : Int) (h0 : 0 ≤ r) (h1 : r < yearI y) : ∃ m, 0 ≤ m ∧ m ≤ 11 ∧ cumI y m ≤ r ∧ r < cumI y m + lenI y m := by
  have step : ∀ k : Nat, k ≤ 12 → r < cumI y k → ∃ m, 0 ≤ m ∧ m ≤ 11 ∧ cumI y m ≤ r ∧ r < cumI y m + lenI y m := by
    intro k
    induction k with
    | zero => intro _ h; have e : cumI y ((0 : Nat) : Int) = 0 := cumI_zero y; rw [e] at h; omega
    | succ k ih =>
      intro hk h
      have h3 := cumI_succ y k (by omega) (by omega)
      by_cases h2 : r < cumI y k
      · exact ih (by omega) h2
      · have e : ((k + 1 : Nat) : Int) = (k : Int) + 1 := by omega
        rw [e] at h
        exact ⟨k, by omega, by omega, by omega, by omega⟩
  refine step 12 (Nat.le_refl _) ?_
  have e := cumI_12 y
  have e2 : ((12 : Nat) : Int) = 12 := rfl
  rw [e2]; omega

/-- a date of the calendar's years -/
def OkD (y m d : Int) : Prop := (-9999 ≤ y ∧ y ≤ 9999) ∧ (0 ≤ m ∧ m ≤ 11) ∧ 1 ≤ d ∧ d ≤ lenI y m
/-- the number of the first day of a month -/
def beginI (y m : Int) : Int := dby y - 719528 + cumI y m
def numI (y m d : Int) : Int := beginI y m + d - 1
theorem num_range (y m d : Int) (h : OkD y m d) : -4371587 ≤ numI y m d ∧ numI y m d ≤ 2932896 := by
  obtain ⟨⟨h1, h2⟩, ⟨h3, h4⟩, h5, h6⟩ := h
  have a := dby_mono (-9999) y h1
  have b := dby_mono (y + 1) 10000 (by omega)
  have c := cumI_bd y m h3 h4
  have d' := dby_succ y
  have e1 : dby (-9999) = -3652059 := by decide
  have e2 : dby 10000 = 3652425 := by decide
  unfold numI beginI; omega
theorem num_inj (y m d y' m' d' : Int) (h : OkD y m d) (h' : OkD y' m' d') (he : numI y m d = numI y' m' d') : y = y' ∧ m = m' ∧ d = d' := by
  obtain ⟨⟨h1, h2⟩, ⟨h3, h4⟩, h5, h6⟩ := h
  obtain ⟨⟨g1, g2⟩, ⟨g3, g4⟩, g5, g6⟩ := h'
  unfold numI beginI at he
  have c := cumI_bd y m h3 h4
  have c' := cumI_bd y' m' g3 g4
  have s := dby_succ y
  have s' := dby_succ y'
  have ey : y = y' := by
    rcases Int.lt_trichotomy y y' with h | h | h
    · have := dby_mono (y + 1) y' (by omega); omega
    · exact h
    · have := dby_mono (y' + 1) y (by omega); omega
  subst ey
  have em : m = m' := by
    rcases Int.lt_trichotomy m m' with h | h | h
    · have := cumI_mono y m m' h3 h g4; omega
    · exact h
    · have := cumI_mono y m' m g3 h h4; omega
  subst em
  exact ⟨rfl, rfl, by omega⟩
theorem num_ex (n : Int) (h1 : -4371587 ≤ n) (h2 : n ≤ 2932896) : ∃ y m d, OkD y m d ∧ numI y m d = n := by
  have e1 : dby (-9999) = -3652059 := by decide
  have e2 : dby (-9999 + ((19999 : Nat) : Int)) = 3652425 := by decide
  obtain ⟨y, a1, a2, a3, a4⟩ := year_ex (n + 719528) (-9999) 19999 (by omega) (by omega)
  have s := dby_succ y
  obtain ⟨m, b1, b2, b3, b4⟩ := month_ex y (n + 719528 - dby y) (by omega) (by omega)
  exact ⟨y, m, n + 719528 - dby y - cumI y m + 1, ⟨⟨by omega, by omega⟩, ⟨b1, b2⟩, by omega, by omega⟩, by unfold numI beginI; omega⟩
end Go.Proofs.YtpjncnoejdaplaaGreatDoor
namespace Go.Proofs.YtpjncnoejdaplaaGreatDoor
open Go Go.RowKit

theorem tmod_zero (y k : Int) : (y.tmod k == 0) = decide (y % k = 0) := by
  rw [Bool.eq_iff_iff, beq_iff_eq, decide_eq_true_iff, ← Int.dvd_iff_tmod_eq_zero, ← Int.dvd_iff_emod_eq_zero]
theorem leapB_t (y : Int) : leapB y = ((y.tmod 4 == 0) && ((y.tmod 100 != 0) || (y.tmod 400 == 0))) := by
  unfold leapB bne
  rw [tmod_zero, tmod_zero, tmod_zero]
set_option maxHeartbeats 400000 in
theorem refLeap_any (y : Int) (_hy1 : -9223372036854775808 ≤ y) (_hy2 : y ≤ 9223372036854775807) (w : World) : Calls Tryz.prog 153 #[.int .i64 y] w fun e w' => e = .returned (.bool (leapB y)) ∧ w = w' := by
  rw [leapB_t]
  go_enter Tryz.func153, Tryz.ntmps153
  go_wp2_with fail
  all_goals (go_ret; exact ⟨by simp [*], rfl⟩)
theorem ret_int {k : IntKind} {a b : Int} (h : a = b) : Ending.returned (.int k a) = .returned (.int k b) := by rw [h]
set_option maxHeartbeats 1000000 in
theorem refLength_any (y m : Int) (hy1 : -9223372036854775808 ≤ y) (hy2 : y ≤ 9223372036854775807) (w : World) : Calls Tryz.prog 88 #[.int .i64 y, .int .i64 m] w fun e w' => e = .returned (.int .i64 (lenI y m)) ∧ w = w' := by
  by_cases hm : 0 ≤ m ∧ m ≤ 11
  · rcases month_cases m hm.1 hm.2 with h | h | h | h | h | h | h | h | h | h | h | h <;> subst h <;> clear hm
    all_goals
      go_enter Tryz.func88, Tryz.ntmps88
      go_wp2_with (go_at_call 153; refine (refLeap_any y hy1 hy2 _).mono ?_; rintro e w' ⟨rfl, rfl⟩)
      all_goals (go_ret; exact ⟨by simp [lenI, *], rfl⟩)
  · have e := lenI_no y m (by omega)
    rw [e]
    have h0 : (m == 0) = false := by rw [beq_eq_false_iff_ne]; omega
    have h1 : (m == 1) = false := by rw [beq_eq_false_iff_ne]; omega
    have h2 : (m == 2) = false := by rw [beq_eq_false_iff_ne]; omega
    have h3 : (m == 3) = false := by rw [beq_eq_false_iff_ne]; omega
    have h4 : (m == 4) = false := by rw [beq_eq_false_iff_ne]; omega
    have h5 : (m == 5) = false := by rw [beq_eq_false_iff_ne]; omega
    have h6 : (m == 6) = false := by rw [beq_eq_false_iff_ne]; omega
    have h7 : (m == 7) = false := by rw [beq_eq_false_iff_ne]; omega
    have h8 : (m == 8) = false := by rw [beq_eq_false_iff_ne]; omega
    have h9 : (m == 9) = false := by rw [beq_eq_false_iff_ne]; omega
    have h10 : (m == 10) = false := by rw [beq_eq_false_iff_ne]; omega
    have h11 : (m == 11) = false := by rw [beq_eq_false_iff_ne]; omega
    clear e hm
    go_enter Tryz.func88, Tryz.ntmps88
    go_wp2_with fail
    go_ret
    exact ⟨rfl, rfl⟩
theorem refyear_any (y : Int) (hy1 : -9223372036854775808 ≤ y) (hy2 : y ≤ 9223372036854775807) (w : World) : Calls Tryz.prog 89 #[.int .i64 y] w fun e w' => e = .returned (.int .i64 (yearI y)) ∧ w = w' := by
  unfold yearI
  go_enter Tryz.func89, Tryz.ntmps89
  go_wp2_with (go_at_call 153; refine (refLeap_any y hy1 hy2 _).mono ?_; rintro e w' ⟨rfl, rfl⟩)
  all_goals (go_ret; exact ⟨by simp [*], rfl⟩)
/-- A quotient downwards and the rest. -/
theorem floor_parts (n k : Int) (hk : 0 < k) : (n.tmod k < 0 → n.tdiv k - 1 = n / k ∧ n.tmod k + k = n % k) ∧ (0 ≤ n.tmod k → n.tdiv k = n / k ∧ n.tmod k = n % k) := by
  have h1 := Int.tmod_add_mul_tdiv n k
  have h2 := Int.emod_nonneg n (by omega : k ≠ 0)
  have h3 := Int.emod_lt_of_pos n hk
  have h4 := Int.emod_add_mul_ediv n k
  have h5 : -k < n.tmod k := by
    have := Int.tmod_lt_of_pos (-n) hk
    rw [Int.neg_tmod] at this
    omega
  have h6 := Int.tmod_lt_of_pos n hk
  constructor
  · intro h
    have e := (Int.ediv_emod_unique hk (a := n) (r := n.tmod k + k) (q := n.tdiv k - 1)).2 ⟨by rw [Int.mul_sub]; omega, by omega, by omega⟩
    exact ⟨e.1.symm, e.2.symm⟩
  · intro h
    have e := (Int.ediv_emod_unique hk (a := n) (r := n.tmod k) (q := n.tdiv k)).2 ⟨by omega, h, h6⟩
    exact ⟨e.1.symm, e.2.symm⟩
theorem tdiv_bd (n k b : Int) (_hk : 0 < k) (h1 : -b ≤ n) (h2 : n ≤ b) (h3 : 0 ≤ b) : -b ≤ n.tdiv k ∧ n.tdiv k ≤ b := by
  have h : (n.tdiv k).natAbs = n.natAbs / k.natAbs := Int.natAbs_tdiv n k
  have h4 : (n.tdiv k).natAbs ≤ n.natAbs := by rw [h]; exact Nat.div_le_self _ _
  clear h
  omega
set_option maxHeartbeats 400000 in
theorem reffloor_any (n k : Int) (hk : 0 < k) (hk2 : k ≤ 1000000) (h1 : -9000000000000000000 ≤ n) (h2 : n ≤ 9000000000000000000) (w : World) : Calls Tryz.prog 50 #[.int .i64 n, .int .i64 k] w fun e w' => e = .returned (.tuple #[.int .i64 (n / k), .int .i64 (n % k)]) ∧ ∃ m, w' = w.drewN m := by
  have hp := floor_parts n k hk
  have hb := tdiv_bd n k 9000000000000000000 hk h1 h2 (by omega)
  have hm1 : n.tmod k < k := Int.tmod_lt_of_pos n hk
  have hm2 : -k < n.tmod k := by
    have := Int.tmod_lt_of_pos (-n) hk
    rw [Int.neg_tmod] at this
    omega
  obtain ⟨hb1, hb2⟩ := hb
  by_cases hneg : n.tmod k < 0
  · obtain ⟨e1, e2⟩ := hp.1 hneg
    rw [← e1, ← e2]
    clear e1 e2 hp
    go_enter Tryz.func50, Tryz.ntmps50
    go_wp2_with fail
    go_quiet (fail)
    go_wp2_with fail
    go_ret2
    exact ⟨rfl, _, rfl⟩
  · obtain ⟨e1, e2⟩ := hp.2 (by omega)
    rw [← e1, ← e2]
    clear e1 e2 hp
    go_enter Tryz.func50, Tryz.ntmps50
    go_wp2_with fail
    go_quiet (fail)
    go_wp2_with fail
    go_ret2
    exact ⟨rfl, _, rfl⟩
theorem reffloor_at (n k q r : Int) (hq : n / k = q) (hr : n % k = r) (hk : 0 < k) (hk2 : k ≤ 1000000) (h1 : -9000000000000000000 ≤ n) (h2 : n ≤ 9000000000000000000) (w : World) : Calls Tryz.prog 50 #[.int .i64 n, .int .i64 k] w fun e w' => e = .returned (.tuple #[.int .i64 q, .int .i64 r]) ∧ ∃ m, w' = w.drewN m := by
  subst hq; subst hr
  exact reffloor_any n k hk hk2 h1 h2 w
end Go.Proofs.YtpjncnoejdaplaaGreatDoor
namespace Go.Proofs.YtpjncnoejdaplaaGreatDoor
open Go Go.RowKit

theorem begin_year (y c r m : Int) (h : y = 400 * c + r) : beginI y m = c * 146097 - 719528 + dby r + cumI r m := by
  subst h
  unfold beginI cumI
  rw [dby_cycle, leap_cycle]
  omega
theorem dby_bd (k : Int) (h0 : 0 ≤ k) (h1 : k ≤ 400) : 0 ≤ dby k ∧ dby k ≤ 146097 := by
  have a := dby_mono 0 k h0
  have b := dby_mono k 400 h1
  have e1 : dby 0 = 0 := by decide
  have e2 : dby 400 = 146097 := by decide
  omega
theorem cumI_le (y m : Int) (h0 : 0 ≤ m) (h1 : m ≤ 12) : 0 ≤ cumI y m ∧ cumI y m ≤ 366 := by
  by_cases h : m = 12
  · subst h
    have a := cumI_12 y
    have b := yearI_two y
    omega
  · have a := cumI_bd y m h0 (by omega)
    have b := yearI_two y
    have c := lenI_bd y m h0 (by omega)
    omega
set_option maxHeartbeats 1000000 in
theorem refbegin_any (y m : Int) (hy1 : -30000 ≤ y) (hy2 : y ≤ 30000) (hm1 : 0 ≤ m) (hm2 : m ≤ 12) (w : World) : Calls Tryz.prog 52 #[.int .i64 y, .int .i64 m] w fun e w' => e = .returned (.int .i64 (beginI y m)) ∧ ∃ n, w' = w.drewN n := by
  obtain ⟨c, hc⟩ : ∃ c, y / 400 = c := ⟨_, rfl⟩
  obtain ⟨r, hr⟩ : ∃ r, y % 400 = r := ⟨_, rfl⟩
  have hc1 : -80 ≤ c := by omega
  have hc2 : c ≤ 80 := by omega
  have hr1 : 0 ≤ r := by omega
  have hr2 : r < 400 := by omega
  have HB := Lib.hid (begin_year y c r m (by omega))
  have HC := Lib.hid hc
  have HR := Lib.hid hr
  have e0 : dby 0 = 0 := by decide
  have HE := Lib.hid e0
  clear hc hr e0
  go_enter Tryz.func52, Tryz.ntmps52
  go_wp2_with fail
  refine (reffloor_at y 400 c r HC.out HR.out (by omega) (by omega) (by omega) (by omega) _).mono ?_
  rintro e w' ⟨rfl, d, rfl⟩
  go_wp2_with fail
  go_loop [7, 8] (fun n k => ∃ i : Int, 0 ≤ i ∧ i ≤ r ∧ n = .int .i64 (c * 146097 - 719528 + dby i) ∧ k = .int .i64 i) (fun _ k => (400 - intOf k).toNat)
  case atStart => exact ⟨0, by omega, by omega, by rw [HE.out]; go_num, rfl⟩
  case round =>
    obtain ⟨i, hi1, hi2, rfl, rfl⟩ := hrel
    have hb := dby_bd i hi1 (by omega)
    obtain ⟨hb1, hb2⟩ := hb
    have hs := dby_succ i
    have hyb := yearI_two i
    have hyb1 : 0 ≤ yearI i := by omega
    have hyb2 : yearI i ≤ 366 := by omega
    clear hyb
    have HS := Lib.hid hs
    clear hs
    by_cases hlt : i < r
    · go_wp2_with (go_at_call 89; refine (refyear_any i (by omega) (by omega) _).mono ?_; rintro e w' ⟨rfl, rfl⟩)
      go_round
      case rel => exact ⟨i + 1, by omega, by omega, by rw [HS.out]; go_num, rfl⟩
      case measure => simp [intOf]; omega
    · have hir : i = r := by omega
      subst hir
      go_wp2_with fail
      go_loop [7, 9] (fun n k => ∃ j : Int, 0 ≤ j ∧ j ≤ m ∧ n = .int .i64 (c * 146097 - 719528 + dby i + cumI i j) ∧ k = .int .i64 j) (fun _ k => (400 - intOf k).toNat)
      case atStart => exact ⟨0, by omega, by omega, by rw [cumI_zero]; go_num, rfl⟩
      case round =>
        obtain ⟨j, hj1, hj2, rfl, rfl⟩ := hrel
        have hq := cumI_le i j hj1 (by omega)
        obtain ⟨hq1, hq2⟩ := hq
        by_cases hlt2 : j < m
        · have hl := lenI_bd i j hj1 (by omega)
          obtain ⟨hl1, hl2⟩ := hl
          have HS2 := Lib.hid (cumI_succ i j hj1 (by omega))
          go_wp2_with (go_at_call 88; refine (refLength_any i j (by omega) (by omega) _).mono ?_; rintro e w' ⟨rfl, rfl⟩)
          go_round
          case rel => exact ⟨j + 1, by omega, by omega, by rw [HS2.out]; go_num, rfl⟩
          case measure => simp [intOf]; omega
        · have hjm : j = m := by omega
          subst hjm
          go_wp2_with fail
          go_ret
          exact ⟨ret_int HB.out.symm, _, rfl⟩
end Go.Proofs.YtpjncnoejdaplaaGreatDoor
namespace Go.Proofs.YtpjncnoejdaplaaGreatDoor
open Go Go.RowKit

def knownB (y : Int) : Bool := decide (-9999 ≤ y) && decide (y ≤ 9999)
theorem refknown_any (y : Int) (w : World) : Calls Tryz.prog 87 #[.int .i64 y] w fun e w' => e = .returned (.bool (knownB y)) ∧ w = w' := by
  unfold knownB
  by_cases h1 : -9999 ≤ y
  · by_cases h2 : y ≤ 9999
    · rw [decide_eq_true h1, decide_eq_true h2]
      go_enter Tryz.func87, Tryz.ntmps87
      go_wp2_with fail
      go_ret
      exact ⟨rfl, rfl⟩
    · rw [decide_eq_true h1, decide_eq_false h2]
      go_enter Tryz.func87, Tryz.ntmps87
      go_wp2_with fail
      go_ret
      exact ⟨rfl, rfl⟩
  · rw [decide_eq_false h1]
    go_enter Tryz.func87, Tryz.ntmps87
    go_wp2_with fail
    go_ret
    exact ⟨rfl, rfl⟩
theorem knownB_true (y : Int) (h : -9999 ≤ y ∧ y ≤ 9999) : knownB y = true := by simp [knownB, h.1, h.2]
theorem knownB_false (y : Int) (h : ¬ (-9999 ≤ y ∧ y ≤ 9999)) : knownB y = false := by
  rw [Bool.eq_false_iff]
  intro h2
  simp [knownB] at h2
  exact h h2
theorem refknown_yes (y : Int) (h : -9999 ≤ y ∧ y ≤ 9999) (w : World) : Calls Tryz.prog 87 #[.int .i64 y] w fun e w' => e = .returned (.bool true) ∧ w = w' := by
  have e := refknown_any y w
  rw [knownB_true y h] at e
  exact e
theorem refknown_no (y : Int) (h : ¬ (-9999 ≤ y ∧ y ≤ 9999)) (w : World) : Calls Tryz.prog 87 #[.int .i64 y] w fun e w' => e = .returned (.bool false) ∧ w = w' := by
  have e := refknown_any y w
  rw [knownB_false y h] at e
  exact e
set_option maxHeartbeats 1000000 in
theorem refDay_yes (y m d : Int) (h : OkD y m d) (w : World) : Calls Tryz.prog 34 #[.int .i64 y, .int .i64 m, .int .i64 d] w fun e w' => e = .returned (.tuple #[.int .i64 (numI y m d), .int .i64 0]) ∧ ∃ n, w' = w.drewN n := by
  have hn := num_range y m d h
  obtain ⟨hy, ⟨hm1, hm2⟩, hd1, hd2⟩ := h
  have HN := Lib.hid (show numI y m d = beginI y m + d - 1 from rfl)
  have hb1 : -4371618 ≤ beginI y m := by have := lenI_bd y m hm1 hm2; have := HN.out; omega
  have hb2 : beginI y m ≤ 2932896 := by have := HN.out; omega
  have hl := lenI_bd y m hm1 hm2
  obtain ⟨hl1, hl2⟩ := hl
  clear hn
  go_enter Tryz.func34, Tryz.ntmps34
  go_wp2_with (first | (go_at_call 87; refine (refknown_yes y hy _).mono ?_; rintro e w' ⟨rfl, rfl⟩) | (go_at_call 88; refine (refLength_any y m (by omega) (by omega) _).mono ?_; rintro e w' ⟨rfl, rfl⟩) | (go_at_call 52; refine (refbegin_any y m (by omega) (by omega) (by omega) (by omega) _).mono ?_; rintro e w' ⟨rfl, k, rfl⟩))
  go_ret2
  exact ⟨by rw [HN.out]; rfl, _, rfl⟩
set_option maxHeartbeats 1000000 in
theorem refDay_no (y m d : Int) (hy1 : -9223372036854775808 ≤ y) (hy2 : y ≤ 9223372036854775807) (h : ¬ OkD y m d) (w : World) : Calls Tryz.prog 34 #[.int .i64 y, .int .i64 m, .int .i64 d] w fun e w' => e = .returned (.tuple #[.int .i64 0, .int .i64 110]) ∧ w = w' := by
  by_cases hk : -9999 ≤ y ∧ y ≤ 9999
  · by_cases hd : d < 1
    · clear h
      go_enter Tryz.func34, Tryz.ntmps34
      go_wp2_with (go_at_call 87; refine (refknown_yes y hk _).mono ?_; rintro e w' ⟨rfl, rfl⟩)
      go_ret2
      exact ⟨rfl, rfl⟩
    · have hl : lenI y m < d := by
        by_cases hm : 0 ≤ m ∧ m ≤ 11
        · rcases Int.lt_or_le (lenI y m) d with h1 | h1
          · exact h1
          · exact absurd ⟨hk, hm, by omega, h1⟩ h
        · rw [lenI_no y m (by omega)]; omega
      clear h
      go_enter Tryz.func34, Tryz.ntmps34
      go_wp2_with (first | (go_at_call 87; refine (refknown_yes y hk _).mono ?_; rintro e w' ⟨rfl, rfl⟩) | (go_at_call 88; refine (refLength_any y m hy1 hy2 _).mono ?_; rintro e w' ⟨rfl, rfl⟩))
      go_ret2
      exact ⟨rfl, rfl⟩
  · clear h
    have HK := Lib.hid hk
    clear hk
    go_enter Tryz.func34, Tryz.ntmps34
    go_wp2_with (go_at_call 87; refine (refknown_no y HK.out _).mono ?_; rintro e w' ⟨rfl, rfl⟩)
    go_ret2
    exact ⟨rfl, rfl⟩
/-- Where a day stands within its 400 years. -/
theorem cycle_of (y m d : Int) (h : OkD y m d) : (numI y m d + 719528) / 146097 = y / 400 ∧ (numI y m d + 719528) % 146097 = dby (y % 400) + cumI (y % 400) m + (d - 1) := by
  obtain ⟨hy, ⟨hm1, hm2⟩, hd1, hd2⟩ := h
  have e := begin_year y (y / 400) (y % 400) m (by omega)
  have hc := cumI_bd (y % 400) m hm1 hm2
  have hl : lenI y m = lenI (y % 400) m := by
    unfold lenI
    have := leap_cycle (y / 400) (y % 400)
    rw [show 400 * (y / 400) + y % 400 = y from by omega] at this
    rw [this]
  rw [hl] at hd2
  have hs := dby_succ (y % 400)
  have hb := dby_bd (y % 400) (by omega) (by omega)
  have hb2 := dby_bd (y % 400 + 1) (by omega) (by omega)
  unfold numI
  rw [e]
  omega
set_option maxHeartbeats 1000000 in
theorem refDate_of (y m d : Int) (h : OkD y m d) (w : World) : Calls Tryz.prog 35 #[.int .i64 (numI y m d)] w fun e w' => e = .returned (.tuple #[.int .i64 y, .int .i64 m, .int .i64 d, .int .i64 0]) ∧ ∃ n, w' = w.drewN n := by
  have hn := num_range y m d h
  have hcy := cycle_of y m d h
  have ha := h
  obtain ⟨⟨hy1, hy2⟩, ⟨hm1, hm2⟩, hd1, hd2⟩ := h
  obtain ⟨c, hc⟩ : ∃ c, y / 400 = c := ⟨_, rfl⟩
  obtain ⟨r, hr⟩ : ∃ r, y % 400 = r := ⟨_, rfl⟩
  rw [hc, hr] at hcy
  obtain ⟨N, hN⟩ : ∃ N, numI y m d = N := ⟨_, rfl⟩
  rw [hN] at hn hcy ⊢
  have hr1 : 0 ≤ r := by omega
  have hr2 : r < 400 := by omega
  have hc1 : -80 ≤ c := by omega
  have hc2 : c ≤ 80 := by omega
  have hyy : y = 400 * c + r := by omega
  have hl : lenI y m = lenI r m := by
    unfold lenI
    rw [hyy, leap_cycle]
  rw [hl] at hd2
  have hcm := cumI_bd r m hm1 hm2
  have hyr : yearI r ≤ 366 := by have := yearI_two r; omega
  have hlm := lenI_bd r m hm1 hm2
  have HY := Lib.hid hyy
  have HQ := Lib.hid hcy.1
  have HR := Lib.hid hcy.2
  obtain ⟨hn1, hn2⟩ := hn
  obtain ⟨hcm1, hcm2, hcm3⟩ := hcm
  obtain ⟨hlm1, hlm2⟩ := hlm
  have e0 : dby 0 = 0 := by decide
  have HE := Lib.hid e0
  have hdr := dby_bd r hr1 (by omega)
  obtain ⟨hdr1, hdr2⟩ := hdr
  clear hcy hyy hl ha hc hr hN hy1 hy2 e0
  go_enter Tryz.func35, Tryz.ntmps35
  go_wp2_with fail
  refine (reffloor_at (N + 719528) 146097 c (dby r + cumI r m + (d - 1)) HQ.out HR.out (by omega) (by omega) (by omega) (by omega) _).mono ?_
  rintro e w' ⟨rfl, q, rfl⟩
  go_wp2_with fail
  go_loop [7, 8] (fun n k => ∃ i : Int, 0 ≤ i ∧ i ≤ r ∧ n = .int .i64 (dby r + cumI r m + (d - 1) - dby i) ∧ k = .int .i64 i) (fun _ k => (400 - intOf k).toNat)
  case atStart => exact ⟨0, by omega, by omega, by rw [HE.out]; go_num, rfl⟩
  case round =>
    obtain ⟨i, hi1, hi2, rfl, rfl⟩ := hrel
    have hb := dby_bd i hi1 (by omega)
    obtain ⟨hb1, hb2⟩ := hb
    have HS := Lib.hid (dby_succ i)
    have hyb := yearI_two i
    have hyb1 : 0 ≤ yearI i := by omega
    have hyb2 : yearI i ≤ 366 := by omega
    clear hyb
    by_cases hlt : i < r
    · have hge : yearI i ≤ dby r + cumI r m + (d - 1) - dby i := by
        have a := dby_mono (i + 1) r (by omega)
        have b := HS.out
        omega
      go_wp2_with (go_at_call 89; refine (refyear_any i (by omega) (by omega) _).mono ?_; rintro e w' ⟨rfl, rfl⟩)
      go_round
      case rel => exact ⟨i + 1, by omega, by omega, by rw [HS.out]; go_num, rfl⟩
      case measure => simp [intOf]; omega
    · have hir : i = r := by omega
      subst hir
      have hge : dby i + cumI i m + (d - 1) - dby i < yearI i := by omega
      have HZ := Lib.hid (show cumI i 0 = 0 from cumI_zero i)
      go_wp2_with (go_at_call 89; refine (refyear_any i (by omega) (by omega) _).mono ?_; rintro e w' ⟨rfl, rfl⟩)
      go_loop [7, 9] (fun n k => ∃ j : Int, 0 ≤ j ∧ j ≤ m ∧ n = .int .i64 (cumI i m + (d - 1) - cumI i j) ∧ k = .int .i64 j) (fun _ k => (400 - intOf k).toNat)
      case atStart => exact ⟨0, by omega, by omega, by rw [HZ.out]; go_num, rfl⟩
      case round =>
        obtain ⟨j, hj1, hj2, rfl, rfl⟩ := hrel
        have hq := cumI_le i j hj1 (by omega)
        obtain ⟨hq1, hq2⟩ := hq
        have hll := lenI_bd i j hj1 (by omega)
        obtain ⟨hl1, hl2⟩ := hll
        by_cases hlt2 : j < m
        · have HS2 := Lib.hid (cumI_succ i j hj1 (by omega))
          have hge2 : lenI i j ≤ cumI i m + (d - 1) - cumI i j := by
            have := cumI_mono i j m hj1 hlt2 hm2
            omega
          go_wp2_with (go_at_call 88; refine (refLength_any i j (by omega) (by omega) _).mono ?_; rintro e w' ⟨rfl, rfl⟩)
          go_round
          case rel => exact ⟨j + 1, by omega, by omega, by rw [HS2.out]; go_num, rfl⟩
          case measure => simp [intOf]; omega
        · have hjm : j = m := by omega
          subst hjm
          have hge2 : cumI i j + (d - 1) - cumI i j < lenI i j := by omega
          have HD := Lib.hid (show cumI i j + (d - 1) - cumI i j + 1 = d from by omega)
          go_wp2_with (go_at_call 88; refine (refLength_any i j (by omega) (by omega) _).mono ?_; rintro e w' ⟨rfl, rfl⟩)
          refine bodyPost_ret (v := .tuple #[.int .i64 (400 * c + i), .int .i64 j, .int .i64 (cumI i j + (d - 1) - cumI i j + 1), .int .i64 0]) (by simp [results, Tryz.results35, go_sem]) rfl ⟨?_, _, rfl⟩
          rw [HY.out, HD.out]
theorem refDate_no (n : Int) (h : n < -4371587 ∨ 2932896 < n) (w : World) : Calls Tryz.prog 35 #[.int .i64 n] w fun e w' => e = .returned (.tuple #[.int .i64 0, .int .i64 0, .int .i64 0, .int .i64 110]) ∧ w = w' := by
  rcases h with h | h
  · go_enter Tryz.func35, Tryz.ntmps35
    go_wp2_with fail
    exact bodyPost_ret (v := .tuple #[.int .i64 0, .int .i64 0, .int .i64 0, .int .i64 110]) (by simp [results, Tryz.results35, go_sem]) rfl ⟨rfl, rfl⟩
  · have h' : ¬ n < -4371587 := by omega
    go_enter Tryz.func35, Tryz.ntmps35
    go_wp2_with fail
    exact bodyPost_ret (v := .tuple #[.int .i64 0, .int .i64 0, .int .i64 0, .int .i64 110]) (by simp [results, Tryz.results35, go_sem]) rfl ⟨rfl, rfl⟩
end Go.Proofs.YtpjncnoejdaplaaGreatDoor
