/- Doubles told of their bits, and doubles that are integers: plain Lean. -/
import Derived.Laws.FloatBits
namespace Go.Proofs.YtpjncnoejdaplaaGreatDoor

/-- A magnitude's bits as a multiple of the least double. -/
def vN (r : Nat) : Nat := if r < 4503599627370496 then r else (4503599627370496 + r % 4503599627370496) * 2 ^ (r / 4503599627370496 - 1)
def szB (b : Nat) : Nat := b % 9223372036854775808
/-- The place of a double's bits in the order of the doubles. -/
def sv (b : Nat) : Int := if b / 9223372036854775808 % 2 = 1 then -(szB b : Int) else (szB b : Int)

theorem vN_succ (r : Nat) : vN r < vN (r + 1) := by
  unfold vN
  by_cases h : r + 1 < 4503599627370496
  · rw [if_pos (by omega), if_pos h]; omega
  · by_cases h2 : r + 1 = 4503599627370496
    · have e : r = 4503599627370495 := by omega
      subst e
      decide
    · rw [if_neg (by omega), if_neg h]
      by_cases h3 : r % 4503599627370496 + 1 < 4503599627370496
      · have e1 : (r + 1) % 4503599627370496 = r % 4503599627370496 + 1 := by omega
        have e2 : (r + 1) / 4503599627370496 = r / 4503599627370496 := by omega
        rw [e1, e2]
        exact Nat.mul_lt_mul_of_pos_right (by omega) (Nat.pow_pos (by omega))
      · have e1 : (r + 1) % 4503599627370496 = 0 := by omega
        have e2 : (r + 1) / 4503599627370496 - 1 = (r / 4503599627370496 - 1) + 1 := by omega
        rw [e1, e2, Nat.pow_succ]
        have hp : 0 < 2 ^ (r / 4503599627370496 - 1) := Nat.pow_pos (by omega)
        have e3 : (4503599627370496 + 0) * (2 ^ (r / 4503599627370496 - 1) * 2) = 9007199254740992 * 2 ^ (r / 4503599627370496 - 1) := by omega
        rw [e3]
        exact Nat.mul_lt_mul_of_pos_right (by omega) hp
theorem vN_mono {a b : Nat} (h : a < b) : vN a < vN b := by
  induction b with
  | zero => omega
  | succ n ih =>
    rcases Nat.lt_or_ge a n with h1 | h1
    · exact Nat.lt_trans (ih h1) (vN_succ n)
    · rw [show a = n from by omega]; exact vN_succ n
theorem vN_zero : vN 0 = 0 := rfl
theorem read_fin (b : Nat) (h : szB b < 9218868437227405312) : ∃ (m k : Nat), Ieee.double.read b = .number (b / 9223372036854775808 % 2 == 1) m (-1074 + (k : Int)) ∧ m * 2 ^ k = vN (szB b) := by
  unfold szB at h ⊢
  have d1 : Ieee.double.signWeight = 9223372036854775808 := rfl
  have d2 : Ieee.double.binade = 4503599627370496 := rfl
  have d3 : Ieee.double.infRung = 9218868437227405312 := rfl
  have d4 : Ieee.double.leastPlace = -1074 := rfl
  unfold Ieee.Format.read
  simp only [d1, d2, d3, d4]
  by_cases h1 : b % 9223372036854775808 < 4503599627370496
  · rw [if_pos h1]
    exact ⟨_, 0, rfl, by unfold vN; rw [if_pos h1]; omega⟩
  · rw [if_neg h1, if_pos h]
    exact ⟨_, _, rfl, by unfold vN; rw [if_neg h1]⟩
theorem read_inf (b : Nat) (h : szB b = 9218868437227405312) : Ieee.double.read b = .infinity (b / 9223372036854775808 % 2 == 1) := by
  unfold szB at h
  have d1 : Ieee.double.signWeight = 9223372036854775808 := rfl
  have d2 : Ieee.double.binade = 4503599627370496 := rfl
  have d3 : Ieee.double.infRung = 9218868437227405312 := rfl
  unfold Ieee.Format.read
  simp only [d1, d2, d3]
  rw [if_neg (by omega), if_neg (by omega), if_pos h]
theorem read_nan (b : Nat) (h : 9218868437227405312 < szB b) : ∃ s t, Ieee.double.read b = .nan s t := by
  unfold szB at h
  have d1 : Ieee.double.signWeight = 9223372036854775808 := rfl
  have d2 : Ieee.double.binade = 4503599627370496 := rfl
  have d3 : Ieee.double.infRung = 9218868437227405312 := rfl
  unfold Ieee.Format.read
  simp only [d1, d2, d3]
  rw [if_neg (by omega), if_neg (by omega), if_neg (by omega)]
  exact ⟨_, _, rfl⟩
theorem cmp_scale (x y : Int) (c : Nat) (hc : 0 < c) : compare x y = compare (x * c) (y * c) := by
  have hc' : (0 : Int) < c := by omega
  rcases Int.lt_trichotomy x y with h | h | h
  · have := Int.mul_lt_mul_of_pos_right h hc'
    simp only [compare, compareOfLessAndEq, if_pos h, if_pos this]
  · subst h; simp [compare, compareOfLessAndEq]
  · have := Int.mul_lt_mul_of_pos_right h hc'
    simp only [compare, compareOfLessAndEq]
    rw [if_neg (by omega), if_neg (by omega), if_neg (by omega), if_neg (by omega)]
def sg (s : Bool) (n : Nat) : Int := if s then -(n : Int) else n
theorem signed_scale (s : Bool) (m u c : Nat) : Ieee.signed s m u * ((2 ^ c : Nat) : Int) = sg s (m * 2 ^ (u + c)) := by
  unfold Ieee.signed sg
  rw [Nat.shiftLeft_eq, Nat.pow_add, ← Nat.mul_assoc]
  cases s <;> simp [Int.neg_mul]
theorem cmp_of {x y u v : Int} (h1 : x < y ↔ u < v) (h2 : x = y ↔ u = v) : compare x y = compare u v := by
  simp only [compare, compareOfLessAndEq, h1, h2]
theorem cmp_sg (s t : Bool) (a b : Nat) : compare (sg s (vN a)) (sg t (vN b)) = compare (sg s a) (sg t b) := by
  have hz := vN_zero
  have A0 : 0 < a → 0 < vN a := fun h => vN_mono h
  have A1 : a = 0 → vN a = 0 := fun h => by rw [h]; exact hz
  have B0 : 0 < b → 0 < vN b := fun h => vN_mono h
  have B1 : b = 0 → vN b = 0 := fun h => by rw [h]; exact hz
  have C0 : a < b → vN a < vN b := fun h => vN_mono h
  have C1 : b < a → vN b < vN a := fun h => vN_mono h
  have C2 : a = b → vN a = vN b := fun h => by rw [h]
  cases s <;> cases t <;> refine cmp_of ?_ ?_ <;> simp only [sg, Bool.false_eq_true, if_false, if_true] <;> omega
theorem sv_sg (b : Nat) : sv b = sg (b / 9223372036854775808 % 2 == 1) (szB b) := by
  unfold sv sg
  simp only [beq_iff_eq]
/-- The order of two doubles, neither of them not a number. -/
theorem order_is (a b : Nat) (ha : szB a ≤ 9218868437227405312) (hb : szB b ≤ 9218868437227405312) : Ieee.double.order a b = some (compare (sv a) (sv b)) := by
  unfold Ieee.Format.order
  rw [sv_sg, sv_sg]
  obtain ⟨s, hs⟩ : ∃ s, (a / 9223372036854775808 % 2 == 1) = s := ⟨_, rfl⟩
  obtain ⟨t, ht⟩ : ∃ t, (b / 9223372036854775808 % 2 == 1) = t := ⟨_, rfl⟩
  rcases Nat.lt_or_ge (szB a) 9218868437227405312 with h1 | h1
  · obtain ⟨m, k, e1, e2⟩ := read_fin a h1
    rcases Nat.lt_or_ge (szB b) 9218868437227405312 with h2 | h2
    · obtain ⟨n, l, e3, e4⟩ := read_fin b h2
      rw [e1, e3, hs, ht]
      unfold Ieee.Datum.order
      simp only [Option.some.injEq]
      rw [cmp_scale _ _ (2 ^ min k l) (Nat.pow_pos (by omega)), signed_scale, signed_scale]
      rw [show (-1074 + (k : Int) - min (-1074 + (k : Int)) (-1074 + (l : Int))).toNat + min k l = k from by omega, show (-1074 + (l : Int) - min (-1074 + (k : Int)) (-1074 + (l : Int))).toNat + min k l = l from by omega, e2, e4]
      exact cmp_sg _ _ _ _
    · rw [e1, read_inf b (by omega), hs, ht, show szB b = 9218868437227405312 from by omega]
      unfold Ieee.Datum.order
      cases s <;> cases t <;> simp only [sg, Bool.false_eq_true, if_false, if_true, Option.some.injEq] <;> symm <;> first | exact Int.compare_eq_lt.2 (by omega) | exact Int.compare_eq_gt.2 (by omega)
  · rcases Nat.lt_or_ge (szB b) 9218868437227405312 with h2 | h2
    · obtain ⟨n, l, e3, e4⟩ := read_fin b h2
      rw [e3, read_inf a (by omega), hs, ht, show szB a = 9218868437227405312 from by omega]
      unfold Ieee.Datum.order
      cases s <;> cases t <;> simp only [sg, Bool.false_eq_true, if_false, if_true, Option.some.injEq] <;> symm <;> first | exact Int.compare_eq_lt.2 (by omega) | exact Int.compare_eq_gt.2 (by omega)
    · rw [read_inf a (by omega), read_inf b (by omega), hs, ht, show szB a = 9218868437227405312 from by omega, show szB b = 9218868437227405312 from by omega]
      unfold Ieee.Datum.order
      cases s <;> cases t <;> simp [sg, compare, compareOfLessAndEq]
theorem order_nan (a b : Nat) (h : 9218868437227405312 < szB a ∨ 9218868437227405312 < szB b) : Ieee.double.order a b = none := by
  unfold Ieee.Format.order
  rcases h with h | h
  · obtain ⟨s, t, e⟩ := read_nan a h
    rw [e]
    rfl
  · obtain ⟨s, t, e⟩ := read_nan b h
    rw [e]
    cases Ieee.double.read a <;> rfl
theorem read_fin3 (b : Nat) (h : szB b < 9218868437227405312) : ∃ (m k : Nat), Ieee.double.read b = .number (b / 9223372036854775808 % 2 == 1) m (-1074 + (k : Int)) ∧ m * 2 ^ k = vN (szB b) ∧ m < 9007199254740992 := by
  unfold szB at h ⊢
  have d1 : Ieee.double.signWeight = 9223372036854775808 := rfl
  have d2 : Ieee.double.binade = 4503599627370496 := rfl
  have d3 : Ieee.double.infRung = 9218868437227405312 := rfl
  have d4 : Ieee.double.leastPlace = -1074 := rfl
  unfold Ieee.Format.read
  simp only [d1, d2, d3, d4]
  by_cases h1 : b % 9223372036854775808 < 4503599627370496
  · rw [if_pos h1]
    exact ⟨_, 0, rfl, by unfold vN; rw [if_pos h1]; omega, by omega⟩
  · rw [if_neg h1, if_pos h]
    exact ⟨_, _, rfl, by unfold vN; rw [if_neg h1], by omega⟩
theorem log_low (n : Nat) : n < 2 ^ (n.log2 + 2) := Nat.lt_of_lt_of_le Nat.lt_log2_self (Nat.pow_le_pow_right (by omega) (by omega))
theorem cut_gap (n d : Nat) : n / 2 ^ min d (n.log2 + 2) = n / 2 ^ d := by
  rcases Nat.le_total d (n.log2 + 2) with h | h
  · rw [Nat.min_eq_left h]
  · rw [Nat.min_eq_right h, Nat.div_eq_of_lt (log_low n), Nat.div_eq_of_lt (Nat.lt_of_lt_of_le (log_low n) (Nat.pow_le_pow_right (by omega) h))]
theorem cut_zero (s : Bool) (n d : Nat) : Ieee.Toward.zero.cut s n d = n / 2 ^ d := by
  unfold Ieee.Toward.cut
  simp only [Nat.one_shiftLeft]
  rw [cut_gap]
  simp
theorem cut_even (s : Bool) (n d : Nat) (hd : n % 2 ^ d = 0) : Ieee.Toward.even.cut s n d = n / 2 ^ d := by
  unfold Ieee.Toward.cut
  simp only [Nat.one_shiftLeft]
  have hz : n % 2 ^ min d (n.log2 + 2) = 0 := by
    rcases Nat.le_total d (n.log2 + 2) with h | h
    · rw [Nat.min_eq_left h, hd]
    · have : n < 2 ^ d := Nat.lt_of_lt_of_le (log_low n) (Nat.pow_le_pow_right (by omega) h)
      rw [Nat.mod_eq_of_lt this] at hd
      rw [hd, Nat.zero_mod]
  have hp : 0 < 2 ^ min d (n.log2 + 2) := Nat.pow_pos (by omega)
  rw [hz, cut_gap]
  have e1 : decide (2 ^ min d (n.log2 + 2) < 2 * 0) = false := decide_eq_false (by omega)
  have e2 : (2 ^ min d (n.log2 + 2) == 2 * 0) = false := by rw [beq_eq_false_iff_ne]; omega
  rw [e1, e2]
  simp
set_option exponentiation.threshold 2000 in
theorem toInt_num (s : Bool) (m k N : Nat) (h : m * 2 ^ k = N) : (Ieee.Datum.number s m (-1074 + (k : Int))).toInt .zero = some (sg s (N / 2 ^ 1074)) ∧ (Ieee.Datum.number s m (-1074 + (k : Int))).integral .zero = .number s (N / 2 ^ 1074) 0 := by
  have hi : (Ieee.Datum.number s m (-1074 + (k : Int))).integral .zero = .number s (N / 2 ^ 1074) 0 := by
    unfold Ieee.Datum.integral
    simp only [Ieee.Datum.number.injEq, and_true, true_and]
    rw [cut_zero, Nat.shiftLeft_eq, ← h]
    rcases Nat.le_total 1074 k with hk | hk
    · rw [show (-1074 + (k : Int)).toNat = k - 1074 from by omega, show (-(-1074 + (k : Int))).toNat = 0 from by omega]
      have e : 2 ^ k = 2 ^ (k - 1074) * 2 ^ 1074 := by rw [← Nat.pow_add, show k - 1074 + 1074 = k from by omega]
      rw [e, ← Nat.mul_assoc, Nat.mul_div_cancel _ (Nat.pow_pos (by omega)), Nat.pow_zero, Nat.div_one]
    · rw [show (-1074 + (k : Int)).toNat = 0 from by omega, show (-(-1074 + (k : Int))).toNat = 1074 - k from by omega]
      have e : 2 ^ 1074 = 2 ^ (1074 - k) * 2 ^ k := by rw [← Nat.pow_add, show 1074 - k + k = 1074 from by omega]
      rw [e, Nat.mul_div_mul_right _ _ (Nat.pow_pos (by omega)), Nat.pow_zero, Nat.mul_one]
  refine ⟨?_, hi⟩
  unfold Ieee.Datum.toInt
  rw [hi]
  simp only [Option.some.injEq]
  unfold Ieee.signed sg
  rw [Nat.shiftLeft_zero]
set_option exponentiation.threshold 3000 in
/-- How a number that the doubles have is written: 'A * 2 ^ (e - 1074)', of at most 53 digits. -/
theorem near_gen (s : Bool) (A e : Nat) (hL : A = 0 ∨ A.log2 + e < 2098) (hx : 52 < A.log2 → A % 2 ^ (A.log2 - 52) = 0) : szB (Ieee.double.nearest s A (-1074 + (e : Int))) < 9218868437227405312 ∧ vN (szB (Ieee.double.nearest s A (-1074 + (e : Int)))) = A * 2 ^ e ∧ (Ieee.double.nearest s A (-1074 + (e : Int)) / 9223372036854775808 % 2 == 1) = s ∧ Ieee.double.nearest s A (-1074 + (e : Int)) < 18446744073709551616 := by
  have d1 : Ieee.double.signWeight = 9223372036854775808 := rfl
  have d2 : Ieee.double.binade = 4503599627370496 := rfl
  have d3 : Ieee.double.infRung = 9218868437227405312 := rfl
  have d4 : Ieee.double.leastPlace = -1074 := rfl
  have d5 : Ieee.double.fractionBits = 52 := rfl
  by_cases h0 : A = 0
  · subst h0
    have e : Ieee.double.nearest s 0 (-1074 + (e : Int)) = if s then 9223372036854775808 else 0 := by unfold Ieee.Format.nearest Ieee.Format.word; rw [if_pos rfl, d1]
    rw [e, Nat.zero_mul]
    cases s <;> decide
  · have hL : A.log2 + e < 2098 := by
      rcases hL with h | h
      · exact absurd h h0
      · exact h
    have l1 : 2 ^ A.log2 ≤ A := Nat.log2_self_le h0
    have l2 : A < 2 ^ (A.log2 + 1) := Nat.lt_log2_self
    obtain ⟨L, hLL⟩ : ∃ L, A.log2 = L := ⟨_, rfl⟩
    rw [hLL] at l1 l2 hx hL
    have key : ∃ R, Ieee.double.nearest s A (-1074 + (e : Int)) = (if s then 9223372036854775808 else 0) + R ∧ R < 9218868437227405312 ∧ vN R = A * 2 ^ e := by
      unfold Ieee.Format.nearest Ieee.Format.word
      rw [if_neg h0]
      simp only [d1, d2, d3, d4, d5, hLL]
      rcases Nat.lt_or_ge (e + L) 52 with hs | hs
      · rw [show max (-1074 + (e : Int) + (L : Int) - ((52 : Nat) : Int)) (-1074) = -1074 from by omega, show (-1074 + (e : Int) - -1074).toNat = e from by omega, show (-1074 - (-1074 + (e : Int))).toNat = 0 from by omega, show ((-1074 : Int) - -1074).toNat = 0 from by omega, cut_even _ _ _ (by rw [Nat.pow_zero, Nat.mod_one]), Nat.pow_zero, Nat.div_one, Nat.zero_mul, Nat.zero_add, Nat.shiftLeft_eq]
        have hb : A * 2 ^ e < 4503599627370496 := by
          have p := Nat.mul_lt_mul_of_pos_right l2 (Nat.pow_pos (by omega : 0 < 2) : 0 < 2 ^ e)
          rw [← Nat.pow_add] at p
          have q := Nat.pow_le_pow_right (by omega : 0 < 2) (by omega : L + 1 + e ≤ 52)
          omega
        refine ⟨A * 2 ^ e, ?_, by omega, by unfold vN; rw [if_pos hb]⟩
        rw [Nat.min_eq_left (by omega)]
        cases s <;> simp
      · obtain ⟨K, hK⟩ : ∃ K, Ieee.Toward.even.cut s (A <<< (52 - (L : Int)).toNat) ((L : Int) - 52).toNat = K := ⟨_, rfl⟩
        have hKK : K * 2 ^ (e + L - 52) = A * 2 ^ e ∧ 4503599627370496 ≤ K ∧ K < 9007199254740992 := by
          rcases Nat.lt_or_ge 52 L with h | h
          · rw [show (52 - (L : Int)).toNat = 0 from by omega, show ((L : Int) - 52).toNat = L - 52 from by omega, Nat.shiftLeft_zero, cut_even _ _ _ (hx h)] at hK
            have e' : K * 2 ^ (L - 52) = A := by
              rw [← hK]
              exact Nat.div_mul_cancel (Nat.dvd_of_mod_eq_zero (hx h))
            have e1 : 2 ^ L = 4503599627370496 * 2 ^ (L - 52) := by
              rw [show L = 52 + (L - 52) from by omega, Nat.pow_add, show 52 + (L - 52) - 52 = L - 52 from by omega]
            have hp : 0 < 2 ^ (L - 52) := Nat.pow_pos (by omega)
            refine ⟨?_, ?_, ?_⟩
            · rw [show e + L - 52 = (L - 52) + e from by omega, Nat.pow_add, ← Nat.mul_assoc, e']
            · rw [e1, ← e'] at l1
              exact Nat.le_of_mul_le_mul_right l1 hp
            · rw [Nat.pow_succ, e1, ← e'] at l2
              have l4 : K * 2 ^ (L - 52) < 9007199254740992 * 2 ^ (L - 52) := by omega
              exact Nat.lt_of_mul_lt_mul_right l4
          · rw [show (52 - (L : Int)).toNat = 52 - L from by omega, show ((L : Int) - 52).toNat = 0 from by omega, Nat.shiftLeft_eq, cut_even _ _ _ (by rw [Nat.pow_zero, Nat.mod_one]), Nat.pow_zero, Nat.div_one] at hK
            have e1 : 2 ^ L * 2 ^ (52 - L) = 4503599627370496 := by rw [← Nat.pow_add, show L + (52 - L) = 52 from by omega]
            have hp : 0 < 2 ^ (52 - L) := Nat.pow_pos (by omega)
            refine ⟨?_, ?_, ?_⟩
            · rw [← hK, Nat.mul_assoc, ← Nat.pow_add, show 52 - L + (e + L - 52) = e from by omega]
            · rw [← hK, ← e1]; exact Nat.mul_le_mul_right _ l1
            · have := Nat.mul_lt_mul_of_pos_right l2 hp
              rw [Nat.pow_succ, Nat.mul_right_comm, e1] at this
              omega
        obtain ⟨k1, k2, k3⟩ := hKK
        rw [show max (-1074 + (e : Int) + (L : Int) - ((52 : Nat) : Int)) (-1074) = -1074 + (e : Int) + (L : Int) - 52 from by omega, show (-1074 + (e : Int) - (-1074 + (e : Int) + (L : Int) - 52)).toNat = (52 - (L : Int)).toNat from by omega, show (-1074 + (e : Int) + (L : Int) - 52 - (-1074 + (e : Int))).toNat = ((L : Int) - 52).toNat from by omega, hK, show (-1074 + (e : Int) + (L : Int) - 52 - -1074).toNat = e + L - 52 from by omega]
        refine ⟨(e + L - 52) * 4503599627370496 + K, ?_, by omega, ?_⟩
        · rw [Nat.min_eq_left (by omega)]
          cases s <;> simp
        · unfold vN
          rw [if_neg (by omega), show ((e + L - 52) * 4503599627370496 + K) / 4503599627370496 - 1 = e + L - 52 from by omega, show 4503599627370496 + ((e + L - 52) * 4503599627370496 + K) % 4503599627370496 = K from by omega, k1]
    obtain ⟨R, r1, r2, r3⟩ := key
    rw [r1]
    have hsz : szB ((if s then 9223372036854775808 else 0) + R) = R := by
      unfold szB
      cases s <;> simp only [Bool.false_eq_true, if_false, if_true] <;> omega
    rw [hsz]
    refine ⟨r2, r3, ?_, ?_⟩
    · cases s <;> simp only [Bool.false_eq_true, if_false, if_true]
      · rw [beq_eq_false_iff_ne]; omega
      · rw [beq_iff_eq]; omega
    · cases s <;> simp only [Bool.false_eq_true, if_false, if_true] <;> omega
set_option exponentiation.threshold 2000 in
/-- How an integer of at most 53 digits is written. -/
theorem near_is (s : Bool) (M : Nat) (hM : M < 2 ^ 1024) (hx : 52 < M.log2 → M % 2 ^ (M.log2 - 52) = 0) : szB (Ieee.double.nearest s M 0) < 9218868437227405312 ∧ vN (szB (Ieee.double.nearest s M 0)) = M * 2 ^ 1074 ∧ (Ieee.double.nearest s M 0 / 9223372036854775808 % 2 == 1) = s ∧ Ieee.double.nearest s M 0 < 18446744073709551616 := by
  have h : M = 0 ∨ M.log2 + 1074 < 2098 := by
    rcases Nat.eq_zero_or_pos M with h | h
    · exact .inl h
    · right
      have l1 := Nat.log2_self_le (by omega : M ≠ 0)
      have l2 : 2 ^ M.log2 < 2 ^ 1024 := by omega
      have l3 := (Nat.pow_lt_pow_iff_right (by omega : 1 < 2)).1 l2
      omega
  exact near_gen s M 1074 h hx
theorem word_eq (a b : Nat) (ha : a < 18446744073709551616) (hb : b < 18446744073709551616) (h1 : (a / 9223372036854775808 % 2 == 1) = (b / 9223372036854775808 % 2 == 1)) (h2 : vN (szB a) = vN (szB b)) : a = b := by
  have h3 : szB a = szB b := by
    rcases Nat.lt_trichotomy (szB a) (szB b) with h | h | h
    · have := vN_mono h; omega
    · exact h
    · have := vN_mono h; omega
  unfold szB at h3
  rw [Bool.eq_iff_iff, beq_iff_eq, beq_iff_eq] at h1
  omega
set_option exponentiation.threshold 2000 in
/-- An integer of at most 53 digits is written and read as itself. -/
theorem near_int (s : Bool) (M : Nat) (hM : M < 2 ^ 1024) (hx : 52 < M.log2 → M % 2 ^ (M.log2 - 52) = 0) : (Ieee.double.read (Ieee.double.nearest s M 0)).toInt .zero = some (sg s M) := by
  obtain ⟨h1, h2, h3, _⟩ := near_is s M hM hx
  obtain ⟨m, k, r1, r2, _⟩ := read_fin3 _ h1
  rw [r1, h3, (toInt_num s m k _ r2).1, h2, Nat.mul_div_cancel _ (Nat.pow_pos (by omega))]

/-! Integers of at most 53 digits as doubles. -/
def sgB (b : Nat) : Bool := b / 9223372036854775808 % 2 == 1
/-- A finite double's value, as a multiple of the least one. -/
def valB (b : Nat) : Int := sg (sgB b) (vN (szB b))
/-- An integer as a double. -/
def fI (k : Int) : Nat := Ieee.double.nearest (decide (k < 0)) k.natAbs 0
theorem low_exact (M : Nat) (h : M ≤ 9007199254740992) : 52 < M.log2 → M % 2 ^ (M.log2 - 52) = 0 := by
  intro h1
  have h0 : M ≠ 0 := by
    intro e
    subst e
    simp at h1
  have l1 := Nat.log2_self_le h0
  have h2 : M.log2 < 54 := by
    rcases Nat.lt_or_ge M.log2 54 with h2 | h2
    · exact h2
    · have := Nat.pow_le_pow_right (by omega : 0 < 2) h2
      omega
  have h3 : M.log2 = 53 := by omega
  rw [h3] at l1 ⊢
  have : M = 9007199254740992 := by omega
  rw [this]
set_option exponentiation.threshold 2000 in
theorem fI_is (k : Int) (h1 : -9007199254740992 ≤ k) (h2 : k ≤ 9007199254740992) : szB (fI k) < 9218868437227405312 ∧ valB (fI k) = k * 2 ^ 1074 := by
  have hb : k.natAbs < 2 ^ 1024 := Nat.lt_of_lt_of_le (by omega : k.natAbs < 2 ^ 54) (Nat.pow_le_pow_right (by omega) (by omega))
  obtain ⟨a, b, c, _⟩ := near_is (decide (k < 0)) k.natAbs hb (low_exact _ (by omega))
  refine ⟨a, ?_⟩
  have c' : sgB (fI k) = decide (k < 0) := c
  unfold valB
  rw [c']
  unfold fI
  rw [b]
  unfold sg
  by_cases h : k < 0
  · rw [decide_eq_true h, if_pos rfl]
    have e : (k.natAbs : Int) = -k := by omega
    rw [Int.natCast_mul, e, Int.neg_mul, Int.neg_neg]
    rfl
  · rw [decide_eq_false h, if_neg (by simp)]
    have e : (k.natAbs : Int) = k := by omega
    rw [Int.natCast_mul, e]
    rfl
theorem val_order (a b : Nat) (ha : szB a < 9218868437227405312) (hb : szB b < 9218868437227405312) : Ieee.double.order a b = some (compare (valB a) (valB b)) := by
  rw [order_is a b (by omega) (by omega), sv_sg, sv_sg]
  exact congrArg some (cmp_sg _ _ _ _).symm
theorem nan_order (a b : Nat) (h : 9218868437227405312 < szB a ∨ 9218868437227405312 < szB b) : Ieee.double.order a b = none := order_nan a b h
set_option exponentiation.threshold 2000 in
theorem fI_order (a b : Int) (h1 : -9007199254740992 ≤ a) (h2 : a ≤ 9007199254740992) (h3 : -9007199254740992 ≤ b) (h4 : b ≤ 9007199254740992) : Ieee.double.order (fI a) (fI b) = some (compare a b) := by
  obtain ⟨a1, a2⟩ := fI_is a h1 h2
  obtain ⟨b1, b2⟩ := fI_is b h3 h4
  rw [val_order _ _ a1 b1, a2, b2, cmp_scale a b (2 ^ 1074) (Nat.pow_pos (by omega))]
  rfl

/-! Downwards to a whole number. -/
theorem rest_gap (n d : Nat) : (n % 2 ^ min d (n.log2 + 2) != 0) = (n % 2 ^ d != 0) := by
  rcases Nat.le_total d (n.log2 + 2) with h | h
  · rw [Nat.min_eq_left h]
  · rw [Nat.min_eq_right h, Nat.mod_eq_of_lt (log_low n), Nat.mod_eq_of_lt (Nat.lt_of_lt_of_le (log_low n) (Nat.pow_le_pow_right (by omega) h))]
theorem cut_down (s : Bool) (n d : Nat) : Ieee.Toward.down.cut s n d = n / 2 ^ d + (s && n % 2 ^ d != 0).toNat := by
  unfold Ieee.Toward.cut
  simp only [Nat.one_shiftLeft]
  rw [cut_gap, rest_gap]
/-- A double, downwards to a whole one. -/
def floorB (b : Nat) : Nat := Ieee.double.write ((Ieee.double.read b).integral .down)
set_option exponentiation.threshold 2000 in
/-- A finite double's value, downwards to a whole number. -/
def flI (b : Nat) : Int := valB b / 2 ^ 1074
theorem floor_sg (s : Bool) (n D : Nat) (hD : 0 < D) : sg s (n / D + (s && n % D != 0).toNat) = sg s n / (D : Int) := by
  cases s
  · simp [sg]
  · simp only [sg, if_true, Bool.true_and]
    rw [Int.neg_ediv]
    have hs : (D : Int).sign = 1 := Int.sign_eq_one_of_pos (by omega)
    by_cases h : n % D = 0
    · have hd : (D : Int) ∣ (n : Int) := Int.natCast_dvd_natCast.2 (Nat.dvd_of_mod_eq_zero h)
      rw [if_pos hd, h]
      simp
    · have hd : ¬ (D : Int) ∣ (n : Int) := fun hd => h (Nat.mod_eq_zero_of_dvd (Int.natCast_dvd_natCast.1 hd))
      rw [if_neg hd, hs]
      have e : (n % D != 0) = true := by simp [h]
      rw [e]
      simp
      omega
set_option exponentiation.threshold 3000 in
theorem vN_top : vN 9218868437227405312 = 2 ^ 2098 := by decide +kernel
set_option exponentiation.threshold 3000 in
theorem floor_is (b : Nat) (h : szB b < 9218868437227405312) : szB (floorB b) < 9218868437227405312 ∧ valB (floorB b) = flI b * 2 ^ 1074 ∧ sgB (floorB b) = sgB b ∧ floorB b < 18446744073709551616 := by
  obtain ⟨m, k, e1, e2, e3⟩ := read_fin3 b h
  have hN := vN_mono h
  rw [vN_top] at hN
  obtain ⟨s, hs⟩ : ∃ s, (b / 9223372036854775808 % 2 == 1) = s := ⟨_, rfl⟩
  have hs' : sgB b = s := hs
  rw [hs] at e1
  -- the whole number's magnitude
  have key : ∃ M, (Ieee.Datum.number s m (-1074 + (k : Int))).integral .down = .number s M 0 ∧ sg s M = flI b ∧ M < 2 ^ 1024 ∧ (52 < M.log2 → M % 2 ^ (M.log2 - 52) = 0) := by
    unfold Ieee.Datum.integral flI valB
    rw [hs', ← e2]
    simp only [Ieee.Datum.number.injEq, true_and, and_true, Nat.shiftLeft_eq, cut_down]
    rcases Nat.le_total 1074 k with hk | hk
    · rw [show (-1074 + (k : Int)).toNat = k - 1074 from by omega, show (-(-1074 + (k : Int))).toNat = 0 from by omega]
      have e : 2 ^ k = 2 ^ (k - 1074) * 2 ^ 1074 := by rw [← Nat.pow_add, show k - 1074 + 1074 = k from by omega]
      refine ⟨m * 2 ^ (k - 1074), ?_, ?_, ?_, ?_⟩
      · rw [Nat.pow_zero, Nat.div_one, Nat.mod_one]
        simp
      · rw [e, ← Nat.mul_assoc]
        have hf := floor_sg s (m * 2 ^ (k - 1074) * 2 ^ 1074) (2 ^ 1074) (Nat.pow_pos (by omega))
        rw [Nat.mul_div_cancel _ (Nat.pow_pos (by omega)), Nat.mul_mod_left] at hf
        have hz : (s && (0 : Nat) != 0).toNat = 0 := by cases s <;> rfl
        rw [hz, Nat.add_zero] at hf
        exact hf
      · rw [← e2, e, ← Nat.mul_assoc, show 2098 = 1024 + 1074 from rfl, Nat.pow_add 2 1024 1074] at hN
        exact Nat.lt_of_mul_lt_mul_right hN
      · intro h52
        obtain ⟨L, hL⟩ : ∃ L, (m * 2 ^ (k - 1074)).log2 = L := ⟨_, rfl⟩
        rw [hL] at h52 ⊢
        have h0 : m * 2 ^ (k - 1074) ≠ 0 := by
          intro e
          rw [e] at hL
          simp at hL
          omega
        have l1 := Nat.log2_self_le h0
        rw [hL] at l1
        have hLk : L - 52 ≤ k - 1074 := by
          rcases Nat.lt_or_ge (k - 1074) (L - 52) with hlt | hge
          · exfalso
            have h1 : m * 2 ^ (k - 1074) < 9007199254740992 * 2 ^ (k - 1074) := Nat.mul_lt_mul_of_pos_right e3 (Nat.pow_pos (by omega))
            have h2 : 9007199254740992 * 2 ^ (k - 1074) = 2 ^ (53 + (k - 1074)) := by rw [Nat.pow_add]
            have h3 := Nat.pow_le_pow_right (by omega : 0 < 2) (by omega : 53 + (k - 1074) ≤ L)
            omega
          · exact hge
        rw [show k - 1074 = (k - 1074 - (L - 52)) + (L - 52) from by omega, Nat.pow_add, ← Nat.mul_assoc, Nat.mul_mod_left]
    · rw [show (-1074 + (k : Int)).toNat = 0 from by omega, show (-(-1074 + (k : Int))).toNat = 1074 - k from by omega, Nat.pow_zero, Nat.mul_one]
      have e : 2 ^ 1074 = 2 ^ (1074 - k) * 2 ^ k := by rw [← Nat.pow_add, show 1074 - k + k = 1074 from by omega]
      have hle : m / 2 ^ (1074 - k) ≤ m := Nat.div_le_self _ _
      have hb1 : (s && m % 2 ^ (1074 - k) != 0).toNat ≤ 1 := Bool.toNat_le _
      refine ⟨_, rfl, ?_, ?_, low_exact _ (by omega)⟩
      · have hf := floor_sg s (m * 2 ^ k) (2 ^ 1074) (Nat.pow_pos (by omega))
        rw [e, Nat.mul_div_mul_right _ _ (Nat.pow_pos (by omega)), Nat.mul_mod_mul_right] at hf
        have hz : (m % 2 ^ (1074 - k) * 2 ^ k != 0) = (m % 2 ^ (1074 - k) != 0) := by
          have hp : 2 ^ k ≠ 0 := Nat.pos_iff_ne_zero.1 (Nat.pow_pos (by omega))
          rw [Bool.eq_iff_iff, bne_iff_ne, bne_iff_ne]
          constructor
          · intro h1 h2; rw [h2, Nat.zero_mul] at h1; exact h1 rfl
          · intro h1 h2; rcases Nat.mul_eq_zero.1 h2 with h3 | h3
            · exact h1 h3
            · exact hp h3
        rw [hz, ← e] at hf
        exact hf
      · exact Nat.lt_of_lt_of_le (by omega : _ < 2 ^ 54) (Nat.pow_le_pow_right (by omega) (by omega))
  obtain ⟨M, q1, q2, q3, q4⟩ := key
  obtain ⟨a, b', c, d⟩ := near_is s M q3 q4
  have ew : floorB b = Ieee.double.nearest s M 0 := by unfold floorB; rw [e1, q1]; rfl
  rw [ew]
  refine ⟨a, ?_, by rw [hs']; exact c, d⟩
  unfold valB
  have c' : sgB (Ieee.double.nearest s M 0) = s := c
  rw [c', b', ← q2]
  cases s <;> simp [sg, Int.natCast_mul, Int.neg_mul]

/-! Sums that are whole numbers. -/
set_option exponentiation.threshold 3000 in
theorem near_whole (s : Bool) (A e K : Nat) (hK : K ≤ 9007199254740992) (h : A * 2 ^ e = K * 2 ^ 1074) : Ieee.double.nearest s A (-1074 + (e : Int)) = Ieee.double.nearest s K 0 := by
  have hb : K < 2 ^ 1024 := Nat.lt_of_lt_of_le (by omega : K < 2 ^ 54) (Nat.pow_le_pow_right (by omega) (by omega))
  obtain ⟨b1, b2, b3, b4⟩ := near_is s K hb (low_exact _ hK)
  have hp : ∀ n : Nat, 0 < 2 ^ n := fun n => Nat.pow_pos (by omega)
  have hA : A = 0 ∨ (A.log2 + e < 2098 ∧ (52 < A.log2 → A % 2 ^ (A.log2 - 52) = 0)) := by
    rcases Nat.eq_zero_or_pos A with h0 | h0
    · exact .inl h0
    · right
      obtain ⟨L, hL⟩ : ∃ L, A.log2 = L := ⟨_, rfl⟩
      have l1 := Nat.log2_self_le (by omega : A ≠ 0)
      rw [hL] at l1 ⊢
      have l2 : 2 ^ (L + e) ≤ 2 ^ (53 + 1074) := by
        rw [Nat.pow_add, Nat.pow_add]
        exact Nat.le_trans (Nat.mul_le_mul_right _ l1) (by rw [h]; exact Nat.mul_le_mul_right _ (by omega))
      have l3 := (Nat.pow_le_pow_iff_right (by omega : 1 < 2)).1 l2
      refine ⟨by omega, fun h52 => ?_⟩
      rcases Nat.le_total e 1074 with he | he
      · have e2 : 2 ^ 1074 = 2 ^ (1074 - e) * 2 ^ e := by rw [← Nat.pow_add, show 1074 - e + e = 1074 from by omega]
        have hA2 : A = K * 2 ^ (1074 - e) := by
          rw [e2, ← Nat.mul_assoc] at h
          exact Nat.mul_right_cancel (hp e) h
        rcases Nat.lt_or_ge (52 + (1074 - e)) L with h5 | h5
        · have h6 : L = 53 + (1074 - e) := by omega
          have h7 : A ≤ 2 ^ L := by
            rw [hA2, h6, Nat.pow_add]
            exact Nat.mul_le_mul_right _ (by omega)
          have h8 : A = 2 ^ L := Nat.le_antisymm h7 l1
          have h9 : 2 ^ L = 2 ^ 52 * 2 ^ (L - 52) := by rw [← Nat.pow_add, show 52 + (L - 52) = L from by omega]
          rw [h8, h9, Nat.mul_mod_left]
        · rw [hA2, show 1074 - e = (1074 - e - (L - 52)) + (L - 52) from by omega, Nat.pow_add, ← Nat.mul_assoc, Nat.mul_mod_left]
      · have e2 : 2 ^ e = 2 ^ (e - 1074) * 2 ^ 1074 := by rw [← Nat.pow_add, show e - 1074 + 1074 = e from by omega]
        have hA2 : A * 2 ^ (e - 1074) = K := by
          rw [e2, ← Nat.mul_assoc] at h
          exact Nat.mul_right_cancel (hp 1074) h
        have hA3 : A ≤ K := by
          rw [← hA2]
          exact Nat.le_mul_of_pos_right _ (hp _)
        have := low_exact A (by omega)
        rw [hL] at this
        exact this h52
  obtain ⟨a1, a2, a3, a4⟩ := near_gen s A e (by rcases hA with h | h; exact .inl h; exact .inr h.1) (by rcases hA with h | h; (intro h52; rw [h] at h52; simp at h52); exact h.2)
  exact word_eq _ _ a4 b4 (by rw [a3, b3]) (by rw [a2, b2, h])
set_option exponentiation.threshold 2000 in
theorem total_whole (s t : Bool) (m k n l : Nat) (K : Int) (hK1 : -9007199254740992 ≤ K) (hK2 : K ≤ 9007199254740992) (h : sg s (m * 2 ^ k) + sg t (n * 2 ^ l) = K * 2 ^ 1074) (hz : K = 0 → (s && t) = false) :
    ((Ieee.Datum.number s m (-1074 + (k : Int))).sum (Ieee.Datum.number t n (-1074 + (l : Int)))).map Ieee.double.write = some (fI K) := by
  unfold Ieee.Datum.sum
  simp only [Option.map_some, Option.some.injEq]
  have hmin : min (-1074 + (k : Int)) (-1074 + (l : Int)) = -1074 + ((min k l : Nat) : Int) := by omega
  rw [hmin, show (-1074 + (k : Int) - (-1074 + ((min k l : Nat) : Int))).toNat = k - min k l from by omega, show (-1074 + (l : Int) - (-1074 + ((min k l : Nat) : Int))).toNat = l - min k l from by omega]
  obtain ⟨T, hT⟩ : ∃ T, Ieee.signed s m (k - min k l) + Ieee.signed t n (l - min k l) = T := ⟨_, rfl⟩
  rw [hT]
  have hT2 : T * ((2 ^ min k l : Nat) : Int) = K * 2 ^ 1074 := by
    rw [← h, ← hT, Int.add_mul, signed_scale, signed_scale, show k - min k l + min k l = k from by omega, show l - min k l + min k l = l from by omega]
  have hp : ∀ n : Nat, 0 < 2 ^ n := fun n => Nat.pow_pos (by omega)
  have hA : T.natAbs * 2 ^ min k l = K.natAbs * 2 ^ 1074 := by
    have e := congrArg Int.natAbs hT2
    rw [Int.natAbs_mul, Int.natAbs_mul, Int.natAbs_natCast, Int.natAbs_pow] at e
    exact e
  have hneg : (T < 0) = (K < 0) := by
    have p1 : (0 : Int) < ((2 ^ min k l : Nat) : Int) := by have := hp (min k l); omega
    have p2 : (0 : Int) < (2 : Int) ^ 1074 := Int.pow_pos (by omega)
    apply propext
    constructor
    · intro h1
      rcases Int.lt_or_le K 0 with h2 | h2
      · exact h2
      · have h3 := Int.mul_neg_of_neg_of_pos h1 p1
        have h4 := Int.mul_nonneg h2 (Int.le_of_lt p2)
        omega
    · intro h1
      rcases Int.lt_or_le T 0 with h2 | h2
      · exact h2
      · have h3 := Int.mul_neg_of_neg_of_pos h1 p2
        have h4 := Int.mul_nonneg h2 (Int.le_of_lt p1)
        omega
  have hzero : T = 0 ↔ K = 0 := by
    have q1 : T.natAbs = 0 ↔ T = 0 := Int.natAbs_eq_zero
    have q2 : K.natAbs = 0 ↔ K = 0 := Int.natAbs_eq_zero
    rw [← q1, ← q2]
    constructor
    · intro h1
      rw [h1, Nat.zero_mul] at hA
      rcases Nat.mul_eq_zero.1 hA.symm with h2 | h2
      · exact h2
      · have := hp 1074; omega
    · intro h1
      rw [h1, Nat.zero_mul] at hA
      rcases Nat.mul_eq_zero.1 hA with h2 | h2
      · exact h2
      · have := hp (min k l); omega
  have hsign : (if T = 0 then s && t else decide (T < 0)) = decide (K < 0) := by
    by_cases h0 : T = 0
    · rw [if_pos h0, hz (hzero.1 h0), hzero.1 h0]
      rfl
    · rw [if_neg h0]
      simp only [hneg]
  unfold Ieee.Format.write fI
  simp only
  rw [hsign]
  exact near_whole _ _ _ _ (by omega) hA
set_option exponentiation.threshold 2000 in
theorem add_exact (x y : Nat) (K : Int) (hx : szB x < 9218868437227405312) (hy : szB y < 9218868437227405312) (hK1 : -9007199254740992 ≤ K) (hK2 : K ≤ 9007199254740992) (h : valB x + valB y = K * 2 ^ 1074) (hz : K = 0 → (sgB x && sgB y) = false) : Ieee.double.add x y = some (fI K) := by
  obtain ⟨m, k, e1, e2, _⟩ := read_fin3 x hx
  obtain ⟨n, l, e3, e4, _⟩ := read_fin3 y hy
  unfold Ieee.Format.add
  rw [e1, e3]
  refine total_whole _ _ m k n l K hK1 hK2 ?_ hz
  rw [e2, e4]
  exact h
set_option exponentiation.threshold 2000 in
theorem sub_exact (x y : Nat) (K : Int) (hx : szB x < 9218868437227405312) (hy : szB y < 9218868437227405312) (hK1 : -9007199254740992 ≤ K) (hK2 : K ≤ 9007199254740992) (h : valB x - valB y = K * 2 ^ 1074) (hz : K = 0 → (sgB x && !sgB y) = false) : Ieee.double.sub x y = some (fI K) := by
  obtain ⟨m, k, e1, e2, _⟩ := read_fin3 x hx
  obtain ⟨n, l, e3, e4, _⟩ := read_fin3 y hy
  unfold Ieee.Format.sub
  rw [e1, e3]
  refine total_whole _ _ m k n l K hK1 hK2 ?_ hz
  rw [e2, e4, ← h]
  have e : ∀ (s : Bool) (a : Nat), sg (!s) a = - sg s a := by
    intro s a
    cases s <;> simp [sg]
  rw [e]
  rfl
theorem sub_self (x : Nat) (hx : szB x < 9218868437227405312) : Ieee.double.sub x x = some 0 := by
  have h := sub_exact x x 0 hx hx (by omega) (by omega) (by rw [Int.zero_mul]; omega) (fun _ => by cases sgB x <;> rfl)
  exact h
/-- A sum of what are numbers, or one of them an infinity, is no NaN. -/
theorem add_some (x y : Nat) (hx : szB x < 9218868437227405312) (hy : szB y ≤ 9218868437227405312) : ∃ z, Ieee.double.add x y = some z ∧ szB z ≤ 9218868437227405312 ∧ z < 18446744073709551616 := by
  have hw : ∀ s m i, szB (Ieee.double.nearest s m i) ≤ 9218868437227405312 := by
    intro s m i
    have d1 : Ieee.double.signWeight = 9223372036854775808 := rfl
    have d3 : Ieee.double.infRung = 9218868437227405312 := rfl
    unfold Ieee.Format.nearest Ieee.Format.word szB
    simp only [d1, d3]
    repeat' split
    all_goals omega
  have hl : ∀ d, Ieee.double.write d < 18446744073709551616 := fun d => Ieee.Format.write_lt Ieee.double d
  obtain ⟨m, k, e1, _, _⟩ := read_fin3 x hx
  unfold Ieee.Format.add
  rw [e1]
  rcases Nat.lt_or_ge (szB y) 9218868437227405312 with h | h
  · obtain ⟨n, l, e3, _, _⟩ := read_fin3 y h
    rw [e3]
    exact ⟨_, rfl, hw _ _ _, hl _⟩
  · rw [read_inf y (by omega)]
    refine ⟨_, rfl, ?_, hl _⟩
    cases (y / 9223372036854775808 % 2 == 1) <;> decide
theorem sub_some (x y : Nat) (hx : szB x < 9218868437227405312) (hy : szB y < 9218868437227405312) : ∃ z, Ieee.double.sub x y = some z ∧ szB z ≤ 9218868437227405312 ∧ z < 18446744073709551616 := by
  have hw : ∀ s m i, szB (Ieee.double.nearest s m i) ≤ 9218868437227405312 := by
    intro s m i
    have d1 : Ieee.double.signWeight = 9223372036854775808 := rfl
    have d3 : Ieee.double.infRung = 9218868437227405312 := rfl
    unfold Ieee.Format.nearest Ieee.Format.word szB
    simp only [d1, d3]
    repeat' split
    all_goals omega
  have hl : ∀ d, Ieee.double.write d < 18446744073709551616 := fun d => Ieee.Format.write_lt Ieee.double d
  obtain ⟨m, k, e1, _, _⟩ := read_fin3 x hx
  obtain ⟨n, l, e3, _, _⟩ := read_fin3 y hy
  unfold Ieee.Format.sub
  rw [e1, e3]
  exact ⟨_, rfl, hw _ _ _, hl _⟩

/-! What is asked of a floor, and what is above it. -/
theorem val_lt_top (b : Nat) (h : szB b = 9218868437227405312) : Ieee.double.read b = .infinity (sgB b) := read_inf b h
theorem floorB_top (b : Nat) (hf : szB b = 9218868437227405312) : szB (floorB b) = 9218868437227405312 ∧ sgB (floorB b) = sgB b := by
  unfold floorB
  rw [read_inf b hf]
  unfold sgB
  cases (b / 9223372036854775808 % 2 == 1) <;> decide
set_option exponentiation.threshold 2000 in
theorem floor_cmp (b : Nat) (c : Int) (h : szB b < 9218868437227405312) (h1 : -9007199254740992 ≤ c) (h2 : c ≤ 9007199254740992) : Ieee.double.order (floorB b) (fI c) = some (compare (flI b) c) := by
  obtain ⟨a1, a2, _, _⟩ := floor_is b h
  obtain ⟨b1, b2⟩ := fI_is c h1 h2
  rw [val_order _ _ a1 b1, a2, b2, cmp_scale (flI b) c (2 ^ 1074) (Nat.pow_pos (by omega))]
  rfl
theorem top_cmp (b : Nat) (c : Int) (h : szB b = 9218868437227405312) (h1 : -9007199254740992 ≤ c) (h2 : c ≤ 9007199254740992) : Ieee.double.order b (fI c) = some (if sgB b then .lt else .gt) := by
  obtain ⟨b1, _⟩ := fI_is c h1 h2
  obtain ⟨n, l, e3, _⟩ := read_fin (fI c) b1
  unfold Ieee.Format.order
  rw [read_inf b h, e3]
  rfl
theorem c_low : fI (-1000000000000000) = 14054727237768577024 := by decide +kernel
theorem c_high : fI 1000000000000000 = 4831355200913801216 := by decide +kernel
set_option exponentiation.threshold 2000 in
theorem toInt_floor (b : Nat) (h : szB b < 9218868437227405312) : (Ieee.double.read (floorB b)).toInt .zero = some (flI b) := by
  obtain ⟨a1, a2, _, _⟩ := floor_is b h
  obtain ⟨m, k, r1, r2, _⟩ := read_fin3 _ a1
  have hv : sg (floorB b / 9223372036854775808 % 2 == 1) (vN (szB (floorB b))) = flI b * 2 ^ 1074 := a2
  obtain ⟨s, hs⟩ : ∃ s, (floorB b / 9223372036854775808 % 2 == 1) = s := ⟨_, rfl⟩
  rw [hs] at hv r1
  rw [r1, (toInt_num s m k _ r2).1]
  congr 1
  have hp : (0 : Int) < (2 : Int) ^ 1074 := Int.pow_pos (by omega)
  have hN : (vN (szB (floorB b)) : Int) = (if s then -(flI b) else flI b) * 2 ^ 1074 := by
    cases s
    · simpa [sg] using hv
    · simp only [sg, if_true] at hv ⊢
      rw [Int.neg_mul, ← hv]; omega
  have hd : ((vN (szB (floorB b)) / 2 ^ 1074 : Nat) : Int) = if s then -(flI b) else flI b := by
    rw [Int.natCast_ediv, hN]
    exact Int.mul_ediv_cancel _ (by omega)
  unfold sg
  rw [hd]
  cases s <;> simp
/-- what a double is above its floor -/
def fracB (b : Nat) : Nat := (Ieee.double.sub b (floorB b)).getD 0
def secB (b : Nat) (r : Int) : Nat := (Ieee.double.add (fI r) (fracB b)).getD 0
theorem frac_some (b : Nat) (h : szB b < 9218868437227405312) : Ieee.double.sub b (floorB b) = some (fracB b) ∧ szB (fracB b) ≤ 9218868437227405312 := by
  obtain ⟨z, hz, h2, _⟩ := sub_some b (floorB b) h (floor_is b h).1
  unfold fracB
  rw [hz]
  exact ⟨rfl, h2⟩
theorem sec_some (b : Nat) (r : Int) (h : szB b < 9218868437227405312) (h1 : -9007199254740992 ≤ r) (h2 : r ≤ 9007199254740992) : Ieee.double.add (fI r) (fracB b) = some (secB b r) ∧ szB (secB b r) ≤ 9218868437227405312 := by
  obtain ⟨z, hz, h3, _⟩ := add_some (fI r) (fracB b) (fI_is r h1 h2).1 (frac_some b h).2
  unfold secB
  rw [hz]
  exact ⟨rfl, h3⟩
end Go.Proofs.YtpjncnoejdaplaaGreatDoor
