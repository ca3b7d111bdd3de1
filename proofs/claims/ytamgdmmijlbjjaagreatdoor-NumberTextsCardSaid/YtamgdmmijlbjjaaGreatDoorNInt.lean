/- The int of a double: plain Lean about reading and writing, then the program's answer and the document's. -/
import Derived.Test.YtamgdmmijlbjjaaGreatDoorNWhole
namespace Go.Proofs.YtamgdmmijlbjjaaGreatDoor
open Go Go.RowKit

theorem read_fin3 (b : Nat) (h : szB b < 9218868437227405312) : ∃ (m k : Nat), Ieee.double.read b = .number (b / 9223372036854775808 % 2 == 1) m (-1074 + (k : Int)) ∧ m * 2 ^ k = vN (szB b) ∧ m < 9007199254740992 := by
  unfold szB at h ⊢
  have d1 : Ieee.double.signWeight = 9223372036854775808 := rfl
  have d2 : Ieee.double.binade = 4503599627370496 := rfl
  have d3 : Ieee.double.infRung = 9218868437227405312 := rfl
  have d4 : Ieee.double.leastPlace = -1074 := rfl
  unfold Ieee.Format.read
  simp only [d1, d2, d3, d4]
  by_cases h1 : b % 9223372036854775808 < 4503599627370496
  · rw [if_pos h1]
    exact ⟨_, 0, rfl, by unfold vN; rw [if_pos h1]; omega, by omega⟩
  · rw [if_neg h1, if_pos h]
    exact ⟨_, _, rfl, by unfold vN; rw [if_neg h1], by omega⟩
theorem log_low (n : Nat) : n < 2 ^ (n.log2 + 2) := Nat.lt_of_lt_of_le Nat.lt_log2_self (Nat.pow_le_pow_right (by omega) (by omega))
theorem cut_gap (n d : Nat) : n / 2 ^ min d (n.log2 + 2) = n / 2 ^ d := by
  rcases Nat.le_total d (n.log2 + 2) with h | h
  · rw [Nat.min_eq_left h]
  · rw [Nat.min_eq_right h, Nat.div_eq_of_lt (log_low n), Nat.div_eq_of_lt (Nat.lt_of_lt_of_le (log_low n) (Nat.pow_le_pow_right (by omega) h))]
theorem cut_zero (s : Bool) (n d : Nat) : Ieee.Toward.zero.cut s n d = n / 2 ^ d := by
  unfold Ieee.Toward.cut
  simp only [Nat.one_shiftLeft]
  rw [cut_gap]
  simp
theorem cut_even (s : Bool) (n d : Nat) (hd : n % 2 ^ d = 0) : Ieee.Toward.even.cut s n d = n / 2 ^ d := by
  unfold Ieee.Toward.cut
  simp only [Nat.one_shiftLeft]
  have hz : n % 2 ^ min d (n.log2 + 2) = 0 := by
    rcases Nat.le_total d (n.log2 + 2) with h | h
    · rw [Nat.min_eq_left h, hd]
    · have : n < 2 ^ d := Nat.lt_of_lt_of_le (log_low n) (Nat.pow_le_pow_right (by omega) h)
      rw [Nat.mod_eq_of_lt this] at hd
      rw [hd, Nat.zero_mod]
  have hp : 0 < 2 ^ min d (n.log2 + 2) := Nat.pow_pos (by omega)
  rw [hz, cut_gap]
  have e1 : decide (2 ^ min d (n.log2 + 2) < 2 * 0) = false := decide_eq_false (by omega)
  have e2 : (2 ^ min d (n.log2 + 2) == 2 * 0) = false := by rw [beq_eq_false_iff_ne]; omega
  rw [e1, e2]
  simp
set_option exponentiation.threshold 2000 in
theorem toInt_num (s : Bool) (m k N : Nat) (h : m * 2 ^ k = N) : (Ieee.Datum.number s m (-1074 + (k : Int))).toInt .zero = some (sg s (N / 2 ^ 1074)) ∧ (Ieee.Datum.number s m (-1074 + (k : Int))).integral .zero = .number s (N / 2 ^ 1074) 0 := by
  have hi : (Ieee.Datum.number s m (-1074 + (k : Int))).integral .zero = .number s (N / 2 ^ 1074) 0 := by
    unfold Ieee.Datum.integral
    simp only [Ieee.Datum.number.injEq, and_true, true_and]
    rw [cut_zero, Nat.shiftLeft_eq, ← h]
    rcases Nat.le_total 1074 k with hk | hk
    · rw [show (-1074 + (k : Int)).toNat = k - 1074 from by omega, show (-(-1074 + (k : Int))).toNat = 0 from by omega]
      have e : 2 ^ k = 2 ^ (k - 1074) * 2 ^ 1074 := by rw [← Nat.pow_add, show k - 1074 + 1074 = k from by omega]
      rw [e, ← Nat.mul_assoc, Nat.mul_div_cancel _ (Nat.pow_pos (by omega)), Nat.pow_zero, Nat.div_one]
    · rw [show (-1074 + (k : Int)).toNat = 0 from by omega, show (-(-1074 + (k : Int))).toNat = 1074 - k from by omega]
      have e : 2 ^ 1074 = 2 ^ (1074 - k) * 2 ^ k := by rw [← Nat.pow_add, show 1074 - k + k = 1074 from by omega]
      rw [e, Nat.mul_div_mul_right _ _ (Nat.pow_pos (by omega)), Nat.pow_zero, Nat.mul_one]
  refine ⟨?_, hi⟩
  unfold Ieee.Datum.toInt
  rw [hi]
  simp only [Option.some.injEq]
  unfold Ieee.signed sg
  rw [Nat.shiftLeft_zero]
set_option exponentiation.threshold 2000 in
/-- An integer of at most 53 digits is written and read as itself. -/
theorem near_int (s : Bool) (M : Nat) (hM : M < 9223372036854775808) (hx : 52 < M.log2 → M % 2 ^ (M.log2 - 52) = 0) : (Ieee.double.read (Ieee.double.nearest s M 0)).toInt .zero = some (sg s M) := by
  have d1 : Ieee.double.signWeight = 9223372036854775808 := rfl
  have d2 : Ieee.double.binade = 4503599627370496 := rfl
  have d3 : Ieee.double.infRung = 9218868437227405312 := rfl
  have d4 : Ieee.double.leastPlace = -1074 := rfl
  have d5 : Ieee.double.fractionBits = 52 := rfl
  by_cases h0 : M = 0
  · subst h0
    have e : Ieee.double.nearest s 0 0 = if s then 9223372036854775808 else 0 := by unfold Ieee.Format.nearest Ieee.Format.word; rw [if_pos rfl, d1]
    rw [e]
    cases s <;> decide +kernel
  · have l1 : 2 ^ M.log2 ≤ M := Nat.log2_self_le h0
    have l2 : M < 2 ^ (M.log2 + 1) := Nat.lt_log2_self
    obtain ⟨L, hL⟩ : ∃ L, M.log2 = L := ⟨_, rfl⟩
    rw [hL] at l1 l2 hx
    have l3 : L ≤ 62 := by
      rcases Nat.lt_or_ge 62 L with h | h
      · have := Nat.pow_le_pow_right (by omega : 0 < 2) h
        omega
      · exact h
    obtain ⟨K, hK⟩ : ∃ K, Ieee.Toward.even.cut s (M <<< (0 - ((L : Int) - 52)).toNat) (((L : Int) - 52) - 0).toNat = K := ⟨_, rfl⟩
    have hKK : K * 2 ^ (L + 1022) = M * 2 ^ 1074 ∧ 4503599627370496 ≤ K ∧ K < 9007199254740992 := by
      rcases Nat.lt_or_ge 52 L with h | h
      · rw [show (0 - ((L : Int) - 52)).toNat = 0 from by omega, show (((L : Int) - 52) - 0).toNat = L - 52 from by omega, Nat.shiftLeft_zero, cut_even _ _ _ (hx h)] at hK
        have e : K * 2 ^ (L - 52) = M := by
          rw [← hK]
          exact Nat.div_mul_cancel (Nat.dvd_of_mod_eq_zero (hx h))
        have e1 : 2 ^ L = 4503599627370496 * 2 ^ (L - 52) := by
          rw [show L = 52 + (L - 52) from by omega, Nat.pow_add, show 52 + (L - 52) - 52 = L - 52 from by omega]
        have hp : 0 < 2 ^ (L - 52) := Nat.pow_pos (by omega)
        refine ⟨?_, ?_, ?_⟩
        · rw [show L + 1022 = (L - 52) + 1074 from by omega, Nat.pow_add, ← Nat.mul_assoc, e]
        · rw [e1, ← e] at l1
          exact Nat.le_of_mul_le_mul_right l1 hp
        · rw [Nat.pow_succ, e1, ← e] at l2
          have l4 : K * 2 ^ (L - 52) < 9007199254740992 * 2 ^ (L - 52) := by omega
          exact Nat.lt_of_mul_lt_mul_right l4
      · rw [show (0 - ((L : Int) - 52)).toNat = 52 - L from by omega, show (((L : Int) - 52) - 0).toNat = 0 from by omega, Nat.shiftLeft_eq, cut_even _ _ _ (by rw [Nat.pow_zero, Nat.mod_one]), Nat.pow_zero, Nat.div_one] at hK
        have e1 : 2 ^ L * 2 ^ (52 - L) = 4503599627370496 := by rw [← Nat.pow_add, show L + (52 - L) = 52 from by omega]
        have hp : 0 < 2 ^ (52 - L) := Nat.pow_pos (by omega)
        refine ⟨?_, ?_, ?_⟩
        · rw [← hK, Nat.mul_assoc, ← Nat.pow_add, show 52 - L + (L + 1022) = 1074 from by omega]
        · rw [← hK, ← e1]; exact Nat.mul_le_mul_right _ l1
        · have := Nat.mul_lt_mul_of_pos_right l2 hp
          rw [Nat.pow_succ, Nat.mul_right_comm, e1] at this
          omega
    obtain ⟨k1, k2, k3⟩ := hKK
    have e : Ieee.double.nearest s M 0 = (if s then 9223372036854775808 else 0) + ((L + 1022) * 4503599627370496 + K) := by
      unfold Ieee.Format.nearest Ieee.Format.word
      rw [if_neg h0]
      simp only [d1, d2, d3, d4, d5, hL]
      rw [show max (0 + (L : Int) - ((52 : Nat) : Int)) (-1074) = (L : Int) - 52 from by omega, hK, show ((L : Int) - 52 - -1074).toNat = L + 1022 from by omega]
      rw [Nat.min_eq_left (by omega)]
      cases s <;> simp
    rw [e]
    have hsz : szB ((if s then 9223372036854775808 else 0) + ((L + 1022) * 4503599627370496 + K)) = (L + 1022) * 4503599627370496 + K := by
      unfold szB
      cases s <;> simp only [Bool.false_eq_true, if_false, if_true] <;> omega
    have hv : vN ((L + 1022) * 4503599627370496 + K) = M * 2 ^ 1074 := by
      unfold vN
      rw [if_neg (by omega), show ((L + 1022) * 4503599627370496 + K) / 4503599627370496 - 1 = L + 1022 from by omega, show 4503599627370496 + ((L + 1022) * 4503599627370496 + K) % 4503599627370496 = K from by omega, k1]
    have hsg : (((if s then 9223372036854775808 else 0) + ((L + 1022) * 4503599627370496 + K)) / 9223372036854775808 % 2 == 1) = s := by
      cases s <;> simp only [Bool.false_eq_true, if_false, if_true]
      · rw [beq_eq_false_iff_ne]; omega
      · rw [beq_iff_eq]; omega
    obtain ⟨m, k, r1, r2, _⟩ := read_fin3 _ (by rw [hsz]; omega : szB ((if s then 9223372036854775808 else 0) + ((L + 1022) * 4503599627370496 + K)) < 9218868437227405312)
    rw [r1, hsg, (toInt_num s m k _ r2).1, hsz, hv, Nat.mul_div_cancel _ (Nat.pow_pos (by omega))]
end Go.Proofs.YtamgdmmijlbjjaaGreatDoor
