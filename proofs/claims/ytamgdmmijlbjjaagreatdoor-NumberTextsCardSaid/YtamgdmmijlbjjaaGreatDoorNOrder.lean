/- How doubles stand to each other, told of their bits: plain Lean. -/
import Derived.Test.YtamgdmmijlbjjaaGreatDoorNFG
namespace Go.Proofs.YtamgdmmijlbjjaaGreatDoor
open Go Go.RowKit

/-- A magnitude's bits as a multiple of the least double. -/
def vN (r : Nat) : Nat := if r < 4503599627370496 then r else (4503599627370496 + r % 4503599627370496) * 2 ^ (r / 4503599627370496 - 1)
def szB (b : Nat) : Nat := b % 9223372036854775808
/-- The place of a double's bits in the order of the doubles. -/
def sv (b : Nat) : Int := if b / 9223372036854775808 % 2 = 1 then -(szB b : Int) else (szB b : Int)

theorem vN_succ (r : Nat) : vN r < vN (r + 1) := by
  unfold vN
  by_cases h : r + 1 < 4503599627370496
  · rw [if_pos (by omega), if_pos h]; omega
  · by_cases h2 : r + 1 = 4503599627370496
    · have e : r = 4503599627370495 := by omega
      subst e
      decide
    · rw [if_neg (by omega), if_neg h]
      by_cases h3 : r % 4503599627370496 + 1 < 4503599627370496
      · have e1 : (r + 1) % 4503599627370496 = r % 4503599627370496 + 1 := by omega
        have e2 : (r + 1) / 4503599627370496 = r / 4503599627370496 := by omega
        rw [e1, e2]
        exact Nat.mul_lt_mul_of_pos_right (by omega) (Nat.pow_pos (by omega))
      · have e1 : (r + 1) % 4503599627370496 = 0 := by omega
        have e2 : (r + 1) / 4503599627370496 - 1 = (r / 4503599627370496 - 1) + 1 := by omega
        rw [e1, e2, Nat.pow_succ]
        have hp : 0 < 2 ^ (r / 4503599627370496 - 1) := Nat.pow_pos (by omega)
        have e3 : (4503599627370496 + 0) * (2 ^ (r / 4503599627370496 - 1) * 2) = 9007199254740992 * 2 ^ (r / 4503599627370496 - 1) := by omega
        rw [e3]
        exact Nat.mul_lt_mul_of_pos_right (by omega) hp
theorem vN_mono {a b : Nat} (h : a < b) : vN a < vN b := by
  induction b with
  | zero => omega
  | succ n ih =>
    rcases Nat.lt_or_ge a n with h1 | h1
    · exact Nat.lt_trans (ih h1) (vN_succ n)
    · rw [show a = n from by omega]; exact vN_succ n
theorem vN_zero : vN 0 = 0 := rfl
theorem read_fin (b : Nat) (h : szB b < 9218868437227405312) : ∃ (m k : Nat), Ieee.double.read b = .number (b / 9223372036854775808 % 2 == 1) m (-1074 + (k : Int)) ∧ m * 2 ^ k = vN (szB b) := by
  unfold szB at h ⊢
  have d1 : Ieee.double.signWeight = 9223372036854775808 := rfl
  have d2 : Ieee.double.binade = 4503599627370496 := rfl
  have d3 : Ieee.double.infRung = 9218868437227405312 := rfl
  have d4 : Ieee.double.leastPlace = -1074 := rfl
  unfold Ieee.Format.read
  simp only [d1, d2, d3, d4]
  by_cases h1 : b % 9223372036854775808 < 4503599627370496
  · rw [if_pos h1]
    exact ⟨_, 0, rfl, by unfold vN; rw [if_pos h1]; omega⟩
  · rw [if_neg h1, if_pos h]
    exact ⟨_, _, rfl, by unfold vN; rw [if_neg h1]⟩
theorem read_inf (b : Nat) (h : szB b = 9218868437227405312) : Ieee.double.read b = .infinity (b / 9223372036854775808 % 2 == 1) := by
  unfold szB at h
  have d1 : Ieee.double.signWeight = 9223372036854775808 := rfl
  have d2 : Ieee.double.binade = 4503599627370496 := rfl
  have d3 : Ieee.double.infRung = 9218868437227405312 := rfl
  unfold Ieee.Format.read
  simp only [d1, d2, d3]
  rw [if_neg (by omega), if_neg (by omega), if_pos h]
theorem read_nan (b : Nat) (h : 9218868437227405312 < szB b) : ∃ s t, Ieee.double.read b = .nan s t := by
  unfold szB at h
  have d1 : Ieee.double.signWeight = 9223372036854775808 := rfl
  have d2 : Ieee.double.binade = 4503599627370496 := rfl
  have d3 : Ieee.double.infRung = 9218868437227405312 := rfl
  unfold Ieee.Format.read
  simp only [d1, d2, d3]
  rw [if_neg (by omega), if_neg (by omega), if_neg (by omega)]
  exact ⟨_, _, rfl⟩
theorem cmp_scale (x y : Int) (c : Nat) (hc : 0 < c) : compare x y = compare (x * c) (y * c) := by
  have hc' : (0 : Int) < c := by omega
  rcases Int.lt_trichotomy x y with h | h | h
  · have := Int.mul_lt_mul_of_pos_right h hc'
    simp only [compare, compareOfLessAndEq, if_pos h, if_pos this]
  · subst h; simp [compare, compareOfLessAndEq]
  · have := Int.mul_lt_mul_of_pos_right h hc'
    simp only [compare, compareOfLessAndEq]
    rw [if_neg (by omega), if_neg (by omega), if_neg (by omega), if_neg (by omega)]
def sg (s : Bool) (n : Nat) : Int := if s then -(n : Int) else n
theorem signed_scale (s : Bool) (m u c : Nat) : Ieee.signed s m u * ((2 ^ c : Nat) : Int) = sg s (m * 2 ^ (u + c)) := by
  unfold Ieee.signed sg
  rw [Nat.shiftLeft_eq, Nat.pow_add, ← Nat.mul_assoc]
  cases s <;> simp [Int.neg_mul]
theorem cmp_of {x y u v : Int} (h1 : x < y ↔ u < v) (h2 : x = y ↔ u = v) : compare x y = compare u v := by
  simp only [compare, compareOfLessAndEq, h1, h2]
theorem cmp_sg (s t : Bool) (a b : Nat) : compare (sg s (vN a)) (sg t (vN b)) = compare (sg s a) (sg t b) := by
  have hz := vN_zero
  have A0 : 0 < a → 0 < vN a := fun h => vN_mono h
  have A1 : a = 0 → vN a = 0 := fun h => by rw [h]; exact hz
  have B0 : 0 < b → 0 < vN b := fun h => vN_mono h
  have B1 : b = 0 → vN b = 0 := fun h => by rw [h]; exact hz
  have C0 : a < b → vN a < vN b := fun h => vN_mono h
  have C1 : b < a → vN b < vN a := fun h => vN_mono h
  have C2 : a = b → vN a = vN b := fun h => by rw [h]
  cases s <;> cases t <;> refine cmp_of ?_ ?_ <;> simp only [sg, Bool.false_eq_true, if_false, if_true] <;> omega
theorem sv_sg (b : Nat) : sv b = sg (b / 9223372036854775808 % 2 == 1) (szB b) := by
  unfold sv sg
  simp only [beq_iff_eq]
/-- The order of two doubles, neither of them not a number. -/
theorem order_is (a b : Nat) (ha : szB a ≤ 9218868437227405312) (hb : szB b ≤ 9218868437227405312) : Ieee.double.order a b = some (compare (sv a) (sv b)) := by
  unfold Ieee.Format.order
  rw [sv_sg, sv_sg]
  obtain ⟨s, hs⟩ : ∃ s, (a / 9223372036854775808 % 2 == 1) = s := ⟨_, rfl⟩
  obtain ⟨t, ht⟩ : ∃ t, (b / 9223372036854775808 % 2 == 1) = t := ⟨_, rfl⟩
  rcases Nat.lt_or_ge (szB a) 9218868437227405312 with h1 | h1
  · obtain ⟨m, k, e1, e2⟩ := read_fin a h1
    rcases Nat.lt_or_ge (szB b) 9218868437227405312 with h2 | h2
    · obtain ⟨n, l, e3, e4⟩ := read_fin b h2
      rw [e1, e3, hs, ht]
      unfold Ieee.Datum.order
      simp only [Option.some.injEq]
      rw [cmp_scale _ _ (2 ^ min k l) (Nat.pow_pos (by omega)), signed_scale, signed_scale]
      rw [show (-1074 + (k : Int) - min (-1074 + (k : Int)) (-1074 + (l : Int))).toNat + min k l = k from by omega, show (-1074 + (l : Int) - min (-1074 + (k : Int)) (-1074 + (l : Int))).toNat + min k l = l from by omega, e2, e4]
      exact cmp_sg _ _ _ _
    · rw [e1, read_inf b (by omega), hs, ht, show szB b = 9218868437227405312 from by omega]
      unfold Ieee.Datum.order
      cases s <;> cases t <;> simp only [sg, Bool.false_eq_true, if_false, if_true, Option.some.injEq] <;> symm <;> first | exact Int.compare_eq_lt.2 (by omega) | exact Int.compare_eq_gt.2 (by omega)
  · rcases Nat.lt_or_ge (szB b) 9218868437227405312 with h2 | h2
    · obtain ⟨n, l, e3, e4⟩ := read_fin b h2
      rw [e3, read_inf a (by omega), hs, ht, show szB a = 9218868437227405312 from by omega]
      unfold Ieee.Datum.order
      cases s <;> cases t <;> simp only [sg, Bool.false_eq_true, if_false, if_true, Option.some.injEq] <;> symm <;> first | exact Int.compare_eq_lt.2 (by omega) | exact Int.compare_eq_gt.2 (by omega)
    · rw [read_inf a (by omega), read_inf b (by omega), hs, ht, show szB a = 9218868437227405312 from by omega, show szB b = 9218868437227405312 from by omega]
      unfold Ieee.Datum.order
      cases s <;> cases t <;> simp [sg, compare, compareOfLessAndEq]
theorem order_nan (a b : Nat) (h : 9218868437227405312 < szB a ∨ 9218868437227405312 < szB b) : Ieee.double.order a b = none := by
  unfold Ieee.Format.order
  rcases h with h | h
  · obtain ⟨s, t, e⟩ := read_nan a h
    rw [e]
    rfl
  · obtain ⟨s, t, e⟩ := read_nan b h
    rw [e]
    cases Ieee.double.read a <;> rfl
end Go.Proofs.YtamgdmmijlbjjaaGreatDoor
