/- The Gregorian calendar, plain: leap years, months, numbers of days; a day's number has one date, and every number in the range has one. -/
namespace Go.Proofs.Ytimipkbingbifaa

def leapB (y : Int) : Bool := decide (y % 4 = 0) && (!decide (y % 100 = 0) || decide (y % 400 = 0))
def yearI (y : Int) : Int := if leapB y = true then 366 else 365
/-- the days of all years from 0 on that are ahead of a year -/
def dby (y : Int) : Int := 365 * y + (y + 3) / 4 - (y + 99) / 100 + (y + 399) / 400
theorem leapB_iff (y : Int) : leapB y = true ↔ y % 4 = 0 ∧ (y % 100 ≠ 0 ∨ y % 400 = 0) := by
  unfold leapB
  simp
theorem yearI_two (y : Int) : yearI y = 366 ∨ yearI y = 365 := by
  unfold yearI; split
  · exact .inl rfl
  · exact .inr rfl
theorem dby_succ (y : Int) : dby (y + 1) = dby y + yearI y := by
  unfold dby yearI
  by_cases h : leapB y = true
  · rw [if_pos h]; rw [leapB_iff] at h; omega
  · rw [if_neg h]; rw [leapB_iff] at h; omega
theorem dby_cycle (c r : Int) : dby (400 * c + r) = 146097 * c + dby r := by
  unfold dby; omega
theorem leap_cycle (c r : Int) : leapB (400 * c + r) = leapB r := by
  rw [Bool.eq_iff_iff, leapB_iff, leapB_iff]; omega
theorem dby_up (y : Int) (k : Nat) : dby y + 365 * k ≤ dby (y + k) := by
  induction k with
  | zero => simp
  | succ k ih =>
    have h := dby_succ (y + k)
    have h2 := yearI_two (y + k)
    have e : y + ((k + 1 : Nat) : Int) = y + k + 1 := by omega
    rw [e]; omega
theorem dby_mono (a b : Int) (h : a ≤ b) : dby a + 365 * (b - a) ≤ dby b := by
  have e := dby_up a (b - a).toNat
  have e2 : a + (((b - a).toNat : Nat) : Int) = b := by omega
  rw [e2] at e; omega
theorem year_ex (N a : Int) (k : Nat) (h1 : dby a ≤ N) (h2 : N < dby (a + k)) : ∃ y, a ≤ y ∧ y < a + k ∧ dby y ≤ N ∧ N < dby (y + 1) := by
  induction k with
  | zero => simp at h2; omega
  | succ k ih =>
    by_cases h : N < dby (a + k)
    · obtain ⟨y, h3, h4, h5, h6⟩ := ih h; exact ⟨y, h3, by omega, h5, h6⟩
    · refine ⟨a + k, by omega, by omega, by omega, ?_⟩
      have e : a + ((k + 1 : Nat) : Int) = a + k + 1 := by omega
      rw [e] at h2; exact h2

def lenI (y m : Int) : Int := if m = 1 then (if leapB y = true then 29 else 28) else if m = 3 ∨ m = 5 ∨ m = 8 ∨ m = 10 then 30 else if 0 ≤ m ∧ m ≤ 11 then 31 else 0
def baseI (m : Int) : Int := if m = 1 then 31 else if m = 2 then 59 else if m = 3 then 90 else if m = 4 then 120 else if m = 5 then 151 else if m = 6 then 181 else if m = 7 then 212 else if m = 8 then 243 else if m = 9 then 273 else if m = 10 then 304 else if m = 11 then 334 else if m = 12 then 365 else 0
/-- the days of a year that are ahead of a month -/
def cumI (y m : Int) : Int := baseI m + if 2 ≤ m ∧ leapB y = true then 1 else 0
theorem month_cases (m : Int) (h0 : 0 ≤ m) (h1 : m ≤ 11) : m = 0 ∨ m = 1 ∨ m = 2 ∨ m = 3 ∨ m = 4 ∨ m = 5 ∨ m = 6 ∨ m = 7 ∨ m = 8 ∨ m = 9 ∨ m = 10 ∨ m = 11 := by omega
theorem cumI_zero (y : Int) : cumI y 0 = 0 := by simp [cumI, baseI]
theorem cumI_succ (y m : Int) (h0 : 0 ≤ m) (h1 : m ≤ 11) : cumI y (m + 1) = cumI y m + lenI y m := by
  rcases month_cases m h0 h1 with h | h | h | h | h | h | h | h | h | h | h | h <;> subst h <;> by_cases hl : leapB y = true <;> simp [cumI, baseI, lenI, hl]
theorem cumI_12 (y : Int) : cumI y 12 = yearI y := by
  by_cases hl : leapB y = true <;> simp [cumI, baseI, yearI, hl]
theorem lenI_bd (y m : Int) (h0 : 0 ≤ m) (h1 : m ≤ 11) : 28 ≤ lenI y m ∧ lenI y m ≤ 31 := by
  rcases month_cases m h0 h1 with h | h | h | h | h | h | h | h | h | h | h | h <;> subst h <;> by_cases hl : leapB y = true <;> simp [lenI, hl]
theorem lenI_no (y m : Int) (h : m < 0 ∨ 11 < m) : lenI y m = 0 := by
  unfold lenI; rw [if_neg (by omega), if_neg (by omega), if_neg (by omega)]
theorem cumI_bd (y m : Int) (h0 : 0 ≤ m) (h1 : m ≤ 11) : 0 ≤ cumI y m ∧ cumI y m + lenI y m ≤ yearI y ∧ 28 * m ≤ cumI y m := by
  rcases month_cases m h0 h1 with h | h | h | h | h | h | h | h | h | h | h | h <;> subst h <;> by_cases hl : leapB y = true <;> simp [cumI, baseI, lenI, yearI, hl]
theorem cumI_mono (y a b : Int) (h0 : 0 ≤ a) (h : a < b) (h1 : b ≤ 11) : cumI y a + lenI y a ≤ cumI y b := by
  rw [← cumI_succ y a h0 (by omega)]
  have step : ∀ k : Nat, a + 1 + k ≤ 11 → cumI y (a + 1) ≤ cumI y (a + 1 + k) := by
    intro k
    induction k with
    | zero => intro _; simp
    | succ k ih =>
      intro hk
      have h2 := ih (by omega)
      have h3 := cumI_succ y (a + 1 + k) (by omega) (by omega)
      have h4 := lenI_bd y (a + 1 + k) (by omega) (by omega)
      have e : a + 1 + ((k + 1 : Nat) : Int) = a + 1 + k + 1 := by omega
      rw [e]; omega
  have h5 := step (b - (a + 1)).toNat (by omega)
  have e : a + 1 + (((b - (a + 1)).toNat : Nat) : Int) = b := by omega
  rw [e] at h5; exact h5
theorem month_ex (y r : Int) (h0 : 0 ≤ r) (h1 : r < yearI y) : ∃ m, 0 ≤ m ∧ m ≤ 11 ∧ cumI y m ≤ r ∧ r < cumI y m + lenI y m := by
  have step : ∀ k : Nat, k ≤ 12 → r < cumI y k → ∃ m, 0 ≤ m ∧ m ≤ 11 ∧ cumI y m ≤ r ∧ r < cumI y m + lenI y m := by
    intro k
    induction k with
    | zero => intro _ h; have e : cumI y ((0 : Nat) : Int) = 0 := cumI_zero y; rw [e] at h; omega
    | succ k ih =>
      intro hk h
      have h3 := cumI_succ y k (by omega) (by omega)
      by_cases h2 : r < cumI y k
      · exact ih (by omega) h2
      · have e : ((k + 1 : Nat) : Int) = (k : Int) + 1 := by omega
        rw [e] at h
        exact ⟨k, by omega, by omega, by omega, by omega⟩
  refine step 12 (Nat.le_refl _) ?_
  have e := cumI_12 y
  have e2 : ((12 : Nat) : Int) = 12 := rfl
  rw [e2]; omega

/-- a date of the calendar's years -/
def OkD (y m d : Int) : Prop := (-9999 ≤ y ∧ y ≤ 9999) ∧ (0 ≤ m ∧ m ≤ 11) ∧ 1 ≤ d ∧ d ≤ lenI y m
/-- the number of the first day of a month -/
def beginI (y m : Int) : Int := dby y - 719528 + cumI y m
def numI (y m d : Int) : Int := beginI y m + d - 1
theorem num_range (y m d : Int) (h : OkD y m d) : -4371587 ≤ numI y m d ∧ numI y m d ≤ 2932896 := by
  obtain ⟨⟨h1, h2⟩, ⟨h3, h4⟩, h5, h6⟩ := h
  have a := dby_mono (-9999) y h1
  have b := dby_mono (y + 1) 10000 (by omega)
  have c := cumI_bd y m h3 h4
  have d' := dby_succ y
  have e1 : dby (-9999) = -3652059 := by decide
  have e2 : dby 10000 = 3652425 := by decide
  unfold numI beginI; omega
theorem num_inj (y m d y' m' d' : Int) (h : OkD y m d) (h' : OkD y' m' d') (he : numI y m d = numI y' m' d') : y = y' ∧ m = m' ∧ d = d' := by
  obtain ⟨⟨h1, h2⟩, ⟨h3, h4⟩, h5, h6⟩ := h
  obtain ⟨⟨g1, g2⟩, ⟨g3, g4⟩, g5, g6⟩ := h'
  unfold numI beginI at he
  have c := cumI_bd y m h3 h4
  have c' := cumI_bd y' m' g3 g4
  have s := dby_succ y
  have s' := dby_succ y'
  have ey : y = y' := by
    rcases Int.lt_trichotomy y y' with h | h | h
    · have := dby_mono (y + 1) y' (by omega); omega
    · exact h
    · have := dby_mono (y' + 1) y (by omega); omega
  subst ey
  have em : m = m' := by
    rcases Int.lt_trichotomy m m' with h | h | h
    · have := cumI_mono y m m' h3 h g4; omega
    · exact h
    · have := cumI_mono y m' m g3 h h4; omega
  subst em
  exact ⟨rfl, rfl, by omega⟩
theorem num_ex (n : Int) (h1 : -4371587 ≤ n) (h2 : n ≤ 2932896) : ∃ y m d, OkD y m d ∧ numI y m d = n := by
  have e1 : dby (-9999) = -3652059 := by decide
  have e2 : dby (-9999 + ((19999 : Nat) : Int)) = 3652425 := by decide
  obtain ⟨y, a1, a2, a3, a4⟩ := year_ex (n + 719528) (-9999) 19999 (by omega) (by omega)
  have s := dby_succ y
  obtain ⟨m, b1, b2, b3, b4⟩ := month_ex y (n + 719528 - dby y) (by omega) (by omega)
  exact ⟨y, m, n + 719528 - dby y - cumI y m + 1, ⟨⟨by omega, by omega⟩, ⟨b1, b2⟩, by omega, by omega⟩, by unfold numI beginI; omega⟩
end Go.Proofs.Ytimipkbingbifaa
