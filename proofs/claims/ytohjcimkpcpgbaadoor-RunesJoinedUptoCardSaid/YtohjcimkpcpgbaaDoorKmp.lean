/- Searching for a part by its borders (Knuth, Morris, Pratt), in plain Lean: texts are functions from places to numbers; no program stands here. -/
namespace Go.Proofs.YtohjcimkpcpgbaaDoor.Kmp

/-- The first k of P stand just ahead of place i of S. -/
def Suf (S P : Nat → Nat) (i k : Nat) : Prop := k ≤ i ∧ ∀ t, t < k → S (i - k + t) = P t

section
variable {S P : Nat → Nat}
theorem Suf.zero (i : Nat) : Suf S P i 0 := ⟨Nat.zero_le _, fun t h => absurd h (Nat.not_lt_zero t)⟩
theorem Suf.self (k : Nat) : Suf P P k k := ⟨Nat.le_refl _, fun t _ => by rw [Nat.sub_self, Nat.zero_add]⟩
/-- A shorter one stands there just if it is an end of the longer one. -/
theorem Suf.down {i k j : Nat} (h : Suf S P i k) (hj : j ≤ k) : Suf S P i j ↔ Suf P P k j := by
  obtain ⟨hk, hf⟩ := h
  constructor
  · rintro ⟨_, h2⟩
    refine ⟨hj, fun t ht => ?_⟩
    rw [← hf (k - j + t) (by omega), show i - k + (k - j + t) = i - j + t from by omega]
    exact h2 t ht
  · rintro ⟨_, h2⟩
    refine ⟨by omega, fun t ht => ?_⟩
    rw [show i - j + t = i - k + (k - j + t) from by omega, hf (k - j + t) (by omega)]
    exact h2 t ht
theorem Suf.step {i k : Nat} : Suf S P (i + 1) (k + 1) ↔ Suf S P i k ∧ S i = P k := by
  constructor
  · rintro ⟨h1, h2⟩
    refine ⟨⟨by omega, fun t ht => ?_⟩, ?_⟩
    · have := h2 t (by omega)
      rwa [show i + 1 - (k + 1) + t = i - k + t from by omega] at this
    · have := h2 k (by omega)
      rwa [show i + 1 - (k + 1) + k = i from by omega] at this
  · rintro ⟨⟨h1, h2⟩, h3⟩
    refine ⟨by omega, fun t ht => ?_⟩
    rw [show i + 1 - (k + 1) + t = i - k + t from by omega]
    by_cases h : t < k
    · exact h2 t h
    · obtain rfl : t = k := by omega
      rw [show i - t + t = i from by omega]
      exact h3

/-- k is the longest beginning of P of at most b that stands just ahead of place i of S. -/
def Lst (S P : Nat → Nat) (i b k : Nat) : Prop := k ≤ b ∧ Suf S P i k ∧ ∀ j, j ≤ b → Suf S P i j → j ≤ k
/-- The longest border of the first n of P that is shorter than they are. -/
def Bd (P : Nat → Nat) (n k : Nat) : Prop := k < n ∧ Suf P P n k ∧ ∀ j, j < n → Suf P P n j → j ≤ k

/-- While the next byte of S is looked for: q stands there, and nothing longer goes on with that byte. -/
def Inv (S P : Nat → Nat) (i b q : Nat) : Prop := q < b ∧ Suf S P i q ∧ ∀ j, j < b → Suf S P (i + 1) (j + 1) → j ≤ q
theorem Inv.start {i b q : Nat} (hb : 0 < b) (h : Lst S P i (b - 1) q) : Inv S P i b q :=
  ⟨by have := h.1; omega, h.2.1, fun j hj hs => h.2.2 j (by omega) (Suf.step.1 hs).1⟩
theorem Inv.fall {i b q r : Nat} (h : Inv S P i b q) (hne : S i ≠ P q) (hr : Bd P q r) : Inv S P i b r := by
  obtain ⟨h1, h2, h3⟩ := h
  obtain ⟨r1, r2, r3⟩ := hr
  refine ⟨by omega, (h2.down (by omega)).2 r2, fun j hj hs => ?_⟩
  have h4 := h3 j hj hs
  have h5 := Suf.step.1 hs
  have h6 : j ≠ q := by rintro rfl; exact hne h5.2
  exact r3 j (by omega) ((h2.down (by omega)).1 h5.1)
theorem Inv.hit {i b q : Nat} (h : Inv S P i b q) (he : S i = P q) : Lst S P (i + 1) b (q + 1) := by
  obtain ⟨h1, h2, h3⟩ := h
  refine ⟨by omega, Suf.step.2 ⟨h2, he⟩, fun j hj hs => ?_⟩
  cases j with
  | zero => omega
  | succ j => have := h3 j (by omega) hs; omega
theorem Inv.miss {i b : Nat} (h : Inv S P i b 0) (hne : S i ≠ P 0) : Lst S P (i + 1) b 0 := by
  obtain ⟨h1, h2, h3⟩ := h
  refine ⟨Nat.zero_le _, Suf.zero _, fun j hj hs => ?_⟩
  cases j with
  | zero => omega
  | succ j =>
    have := h3 j (by omega) hs
    obtain rfl : j = 0 := by omega
    exact absurd (Suf.step.1 hs).2 hne
/-- Of the whole part found, its longest border goes on. -/
theorem Lst.full {i m r : Nat} (h : Lst S P i m m) (hr : Bd P m r) : Lst S P i (m - 1) r := by
  obtain ⟨_, h2, _⟩ := h
  obtain ⟨r1, r2, r3⟩ := hr
  exact ⟨by omega, (h2.down (by omega)).2 r2, fun j hj hs => r3 j (by omega) ((h2.down (by omega)).1 hs)⟩
theorem Lst.short {i m k : Nat} (h : Lst S P i m k) (hk : k < m) : Lst S P i (m - 1) k := ⟨by omega, h.2.1, fun j hj hs => h.2.2 j (by omega) hs⟩
theorem Lst.zero (b : Nat) : Lst S P 0 b 0 := ⟨Nat.zero_le _, Suf.zero _, fun _ _ hs => hs.1⟩
/-- Does the whole part stand there. -/
theorem Lst.whole {i m k : Nat} (h : Lst S P i m k) : Suf S P i m ↔ k = m :=
  ⟨fun hs => by have := h.2.2 m (Nat.le_refl _) hs; have := h.1; omega, fun hk => hk ▸ h.2.1⟩
theorem Bd.one (P : Nat → Nat) : Bd P 1 0 := ⟨Nat.zero_lt_one, Suf.zero _, fun j hj _ => by omega⟩
theorem Bd.of_lst {i k : Nat} (h : Lst P P (i + 1) i k) : Bd P (i + 1) k := ⟨by have := h.1; omega, h.2.1, fun j hj hs => h.2.2 j (by omega) hs⟩
theorem Bd.lst {i k : Nat} (h : Bd P i k) : Lst P P i (i - 1) k := ⟨by have := h.1; omega, h.2.1, fun j hj hs => h.2.2 j (by have := h.1; omega) hs⟩
end
end Go.Proofs.YtohjcimkpcpgbaaDoor.Kmp
