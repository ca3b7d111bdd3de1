/- A day and the next one, plain. -/
import Derived.Test.YtimipkbingbifaaCLawS
namespace Go.Proofs.Ytimipkbingbifaa
open Go Go.RowKit

set_option exponentiation.threshold 2000 in
theorem flI_fI (k : Int) (h1 : -9007199254740992 ≤ k) (h2 : k ≤ 9007199254740992) : flI (fI k) = k := by
  unfold flI
  rw [(fI_is k h1 h2).2]
  exact Int.mul_ediv_cancel _ (by omega)
/-- The next day's date. -/
theorem next_same (y m d : Int) (h : OkD y m d) (hd : d < lenI y m) : OkD y m (d + 1) ∧ numI y m (d + 1) = numI y m d + 1 := by
  obtain ⟨a, b, c, e⟩ := h
  exact ⟨⟨a, b, by omega, by omega⟩, by unfold numI; omega⟩
theorem next_month (y m d : Int) (h : OkD y m d) (hd : d = lenI y m) (hm : m < 11) : OkD y (m + 1) 1 ∧ numI y (m + 1) 1 = numI y m d + 1 := by
  obtain ⟨a, ⟨b, b2⟩, c, e⟩ := h
  have hl := lenI_bd y (m + 1) (by omega) (by omega)
  have hs := cumI_succ y m b (by omega)
  exact ⟨⟨a, ⟨by omega, by omega⟩, by omega, by omega⟩, by unfold numI beginI; omega⟩
theorem next_year (y d : Int) (h : OkD y 11 d) (hd : d = lenI y 11) (hy : y < 9999) : OkD (y + 1) 0 1 ∧ numI (y + 1) 0 1 = numI y 11 d + 1 := by
  obtain ⟨a, ⟨b, b2⟩, c, e⟩ := h
  have hl := lenI_bd (y + 1) 0 (by omega) (by omega)
  have hs := cumI_succ y 11 (by omega) (by omega)
  have h12 : cumI y (11 + 1) = yearI y := cumI_12 y
  have hb := begin_succ y
  refine ⟨⟨⟨by omega, by omega⟩, ⟨by omega, by omega⟩, by omega, by omega⟩, ?_⟩
  unfold numI
  rw [hb]
  unfold beginI
  rw [cumI_zero]
  omega
theorem last_day (d : Int) (hd : d = lenI 9999 11) : numI 9999 11 d = 2932896 := by
  subst hd
  decide
theorem day_cases (y m d : Int) (h : OkD y m d) : (∃ y2 m2 d2, OkD y2 m2 d2 ∧ numI y2 m2 d2 = numI y m d + 1 ∧ ((y2 = y ∧ m2 = m ∧ d2 = d + 1) ∨ (d = lenI y m ∧ d2 = 1 ∧ y2 = y ∧ m2 = m + 1) ∨ (d = lenI y m ∧ d2 = 1 ∧ y2 = y + 1 ∧ m = 11 ∧ m2 = 0))) ∨ numI y m d = 2932896 := by
  by_cases h1 : d < lenI y m
  · obtain ⟨a, b⟩ := next_same y m d h h1
    exact .inl ⟨_, _, _, a, b, .inl ⟨rfl, rfl, rfl⟩⟩
  · have h2 : d = lenI y m := by have := h.2.2.2; omega
    by_cases h3 : m < 11
    · obtain ⟨a, b⟩ := next_month y m d h h2 h3
      exact .inl ⟨_, _, _, a, b, .inr (.inl ⟨h2, rfl, rfl, rfl⟩)⟩
    · have h4 : m = 11 := by have := h.2.1.2; omega
      subst h4
      by_cases h5 : y < 9999
      · obtain ⟨a, b⟩ := next_year y d h h2 h5
        exact .inl ⟨_, _, _, a, b, .inr (.inr ⟨h2, rfl, rfl, rfl, rfl⟩)⟩
      · have h6 : y = 9999 := by have := h.1.2; omega
        subst h6
        exact .inr (last_day d h2)
theorem far_day (y m d : Int) (h : OkD y m d) (hn : numI y m d + 146097 ≤ 2932896) : OkD (y + 400) m d ∧ numI (y + 400) m d = numI y m d + 146097 := by
  obtain ⟨⟨a, a2⟩, ⟨b, b2⟩, c, e⟩ := h
  have e1 : lenI (y + 400) m = lenI y m := by
    unfold lenI
    have := leap_cycle 1 y
    rw [show 400 * 1 + y = y + 400 from by omega] at this
    rw [this]
  have e2 : beginI (y + 400) m = beginI y m + 146097 := by
    have h1 := dby_cycle 1 y
    have h2 := leap_cycle 1 y
    rw [show 400 * 1 + y = y + 400 from by omega] at h1 h2
    unfold beginI cumI
    rw [h1, h2]
    omega
  have hy : y + 400 ≤ 9999 := by
    rcases Int.lt_or_le 9999 (y + 400) with h9 | h9
    · have h3 := dby_mono 10000 (y + 400) (by omega)
      have e3 : dby 10000 = 3652425 := by decide
      have h4 := cumI_bd (y + 400) m b b2
      unfold numI at hn
      unfold beginI at e2
      unfold beginI at hn
      omega
    · exact h9
  exact ⟨⟨⟨by omega, hy⟩, ⟨b, b2⟩, c, by rw [e1]; exact e⟩, by unfold numI; rw [e2]; omega⟩
/-! Weeks. -/
theorem iso_in (n y : Int) (h1 : beginI y 0 ≤ n) (h2 : n < beginI y 0 + yearI y) : beginI (isoI n y) 0 ≤ thI n ∧ thI n < beginI (isoI n y) 0 + yearI (isoI n y) := by
  have a := yearI_two y
  have b := begin_succ y
  have c := begin_succ (y - 1)
  rw [show y - 1 + 1 = y from by omega] at c
  have d := yearI_two (y - 1)
  have e := yearI_two (y + 1)
  have ht : thI n = n - (n + 3) % 7 + 3 := rfl
  unfold isoI
  by_cases h3 : thI n < beginI y 0
  · rw [if_pos h3]; omega
  · rw [if_neg h3]
    by_cases h4 : beginI (y + 1) 0 ≤ thI n
    · rw [if_pos h4]; omega
    · rw [if_neg h4]; omega
theorem iso_uniq (t a b : Int) (h1 : beginI a 0 ≤ t) (h2 : t < beginI a 0 + yearI a) (h3 : beginI b 0 ≤ t) (h4 : t < beginI b 0 + yearI b) : a = b := by
  have ea : ∀ x, beginI x 0 = dby x - 719528 := by intro x; unfold beginI; rw [cumI_zero]; omega
  rw [ea] at h1 h2 h3 h4
  have sa := dby_succ a
  have sb := dby_succ b
  rcases Int.lt_trichotomy a b with h | h | h
  · have := dby_mono (a + 1) b (by omega); omega
  · exact h
  · have := dby_mono (b + 1) a (by omega); omega
theorem week_same (n y y2 : Int) (h1 : beginI y 0 ≤ n) (h2 : n < beginI y 0 + yearI y) (h3 : beginI y2 0 ≤ n + 1) (h4 : n + 1 < beginI y2 0 + yearI y2) (hm : (n + 5) % 7 ≠ 1) : isoI (n + 1) y2 = isoI n y ∧ weekI (n + 1) (isoI n y) = weekI n (isoI n y) := by
  have a := iso_in n y h1 h2
  have b := iso_in (n + 1) y2 h3 h4
  have e : thI (n + 1) = thI n := by unfold thI; omega
  rw [e] at b
  exact ⟨iso_uniq _ _ _ b.1 b.2 a.1 a.2, by unfold weekI; rw [e]⟩
theorem week_next (n y y2 : Int) (h1 : beginI y 0 ≤ n) (h2 : n < beginI y 0 + yearI y) (h3 : beginI y2 0 ≤ n + 1) (h4 : n + 1 < beginI y2 0 + yearI y2) (hm : (n + 5) % 7 = 1) :
    (isoI (n + 1) y2 = isoI n y ∧ weekI (n + 1) (isoI n y) = weekI n (isoI n y) + 1) ∨ (isoI (n + 1) y2 = isoI n y + 1 ∧ weekI (n + 1) (isoI n y + 1) = 1 ∧ 52 ≤ weekI n (isoI n y)) := by
  have a := iso_in n y h1 h2
  have b := iso_in (n + 1) y2 h3 h4
  have e : thI (n + 1) = thI n + 7 := by unfold thI; omega
  rw [e] at b
  have yl := yearI_two (isoI n y)
  have bs := begin_succ (isoI n y)
  have yl2 := yearI_two (isoI n y + 1)
  by_cases h : thI n + 7 < beginI (isoI n y) 0 + yearI (isoI n y)
  · left
    exact ⟨iso_uniq _ _ _ b.1 b.2 (by omega) h, by unfold weekI; rw [e]; omega⟩
  · right
    refine ⟨iso_uniq _ _ _ b.1 b.2 (by omega) (by omega), ?_, ?_⟩
    · unfold weekI; rw [e]; omega
    · unfold weekI; omega
/-- A day's beginning, broken down. -/
theorem Split_day (y m d : Int) (h : OkD y m d) (w : World) : ∃ (s : Nat) (yd : Int), Calls Try.prog 18 #[.float .f64 (fI (numI y m d * 86400))] w fun e w' => e = .returned (.tuple #[.agg (timeV y m d 0 0 s ((numI y m d + 4) % 7) yd), .int .i64 0]) ∧ Below w.heap.size w w' := by
  have hr := num_range y m d h
  have hf := flI_fI (numI y m d * 86400) (by omega) (by omega)
  have hz := (fI_is (numI y m d * 86400) (by omega) (by omega)).1
  have e := Split_of _ hz y m d 0 h (by rw [hf]; omega) (by rw [hf]; omega) w
  exact ⟨_, _, e⟩
end Go.Proofs.Ytimipkbingbifaa
